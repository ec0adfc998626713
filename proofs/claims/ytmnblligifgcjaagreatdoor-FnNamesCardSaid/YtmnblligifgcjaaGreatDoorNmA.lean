/-
  Texts of one claim, one behind the other.
-/
import Derived.Below
import Derived.BigQuiet
import Derived.Deep.RegionWith
import Derived.Deep.Slices
import Derived.Deep.Strs
import Derived.JoinedCond
import Derived.Laws.IdiomStrings
import Derived.Laws.RangeAny
import Derived.Lib.CutLaws
import Derived.Lib.FieldsP
import Derived.Lib.IndexMore
import Derived.Lib.Join
import Derived.Lib.LaidTab
import Derived.Lib.QuietBelow
import Derived.Lib.SlTrimSet
import Derived.Lib.Strings
import Derived.MakeChecks
import Derived.OpenShut
import Derived.ProofKit
import Derived.Shelf.LaysM
import Derived.Shelf.Small.Wraps
import Derived.Shelf.Sort.Plain
import Derived.Shelf.Strconv.Clone
import Derived.Shelf.Strconv.Itoa4
import Derived.Shelf.Strings.Cut
import Derived.Shelf.Strings.FieldsFuncAny
import Derived.Shelf.Strings.OnBuilder
import Derived.Shelf.Strings.Prefix
import Derived.Shelf.Strings.Search2
import Derived.Shelf.Strings.SlTrimAscii
import Derived.Shelf.Strings.Split
import Derived.Sort.Walk0
import Derived.Test.YtmnblligifgcjaaGreatDoorProg
import Derived.Test.YtmnblligifgcjaaGreatDoorRows
import Derived.WalkKit
import Derived.WalkLawsBesides
import Derived.WalkSpells
/-
  Small lemmas that the walks share.
-/
namespace Go.Proofs.YtmnblligifgcjaaGreatDoor
open Go.ChangeShapes Go.WideShapes Go.ChangeAt Go.RowKit
theorem bcell {W w1 : World} (hb : Below W.heap.size W w1) : (∀ b o, b < W.heap.size → w1.cell? ⟨b, o, none⟩ = W.cell? ⟨b, o, none⟩) ∧ (∀ b o, b < W.heap.size → w1.frozen? ⟨b, o, none⟩ = W.frozen? ⟨b, o, none⟩) :=
  ⟨fun b o h => hb.cell (p := ⟨b, o, none⟩) h, fun b o h => hb.frozen (p := ⟨b, o, none⟩) h⟩
theorem two_set {w : World} {B : Nat} {u0 u1 v0 v1 : Value} (p0 : w.cell? ⟨B, 0, none⟩ = some u0) (p1 : w.cell? ⟨B, 1, none⟩ = some u1) :
    ((w.setCell ⟨B, 0, none⟩ v0).setCell ⟨B, 1, none⟩ v1).cell? ⟨B, 0, none⟩ = some v0 ∧ ((w.setCell ⟨B, 0, none⟩ v0).setCell ⟨B, 1, none⟩ v1).cell? ⟨B, 1, none⟩ = some v1 := by
  constructor
  · rw [World.cell?_setCell_other _ _ _ _ (by intro h; have := congrArg Addr.off h; simp at this), World.cell?_setCell_same _ _ _ p0]
  · refine World.cell?_setCell_same _ _ _ (u := u1) ?_
    rw [World.cell?_setCell_other _ _ _ _ (by intro h; have := congrArg Addr.off h; simp at this), p1]
theorem ret_int {k : IntKind} {a b : Int} (h : a = b) : Ending.returned (.int k a) = .returned (.int k b) := by rw [h]
theorem ret_bool {a b : Bool} (h : a = b) : Ending.returned (.bool a) = .returned (.bool b) := by rw [h]
theorem ret_str {a b : ByteArray} (h : a = b) : Ending.returned (.string a) = .returned (.string b) := by rw [h]
theorem take_snoc (s : ByteArray) (k : Nat) (h : k < s.size) : s.data.toList.take (k + 1) = s.data.toList.take k ++ [s[k]] := by
  rw [List.take_succ_eq_append_getElem (by simpa using h)]; rfl
end Go.Proofs.YtmnblligifgcjaaGreatDoor
/-
  Head lines in memory; the laws' own helpers over them.
-/
namespace Go.Proofs.YtmnblligifgcjaaGreatDoor
open Go.ChangeShapes Go.WideShapes Go.ChangeAt Go.RowKit
/-- A head line: its name and its value. -/
structure Hdr where
  name : ByteArray
  value : ByteArray
/-- The lines l lie in block b from off on, two cells each. -/
def HeadsAt (w : World) (b off : Nat) (l : List Hdr) : Prop :=
  ∀ (i : Nat) r, l[i]? = some r → w.cell? ⟨b, off + i * 2, none⟩ = some (.string r.name) ∧ w.cell? ⟨b, off + i * 2 + 1, none⟩ = some (.string r.value)
def hdrV (r : Hdr) : Value := .agg #[.string r.name, .string r.value]
def szH (left : Int) (r : Hdr) : Int := if left - (r.name.size : Int) < 0 then -1 else if left - (r.name.size : Int) - (r.value.size : Int) < 0 then -1 else left - (r.name.size : Int) - (r.value.size : Int)
/-- How much room is left behind the items; -1: none. -/
def szHs (left : Int) : List Hdr → Int
  | [] => left
  | r :: l => if szH left r < 0 then -1 else szHs (szH left r) l
def szHL (left : Int) (l : List Hdr) : Int := if left - (l.length : Int) < 0 then -1 else szHs (left - (l.length : Int)) l
def SmallHdrs (l : List Hdr) : Prop := ∀ (i : Nat) r, l[i]? = some r → r.name.size ≤ maxLen ∧ r.value.size ≤ maxLen
theorem HeadsAt.keep {w w' : World} {b off : Nat} {l : List Hdr} (h : HeadsAt w b off l) (hb : Below w.heap.size w w') : HeadsAt w' b off l := by
  intro i r hr
  obtain ⟨a1, a3⟩ := h i r hr
  exact ⟨by rw [hb.cell (block_lt_of_cell a1)]; exact a1, by rw [hb.cell (block_lt_of_cell a3)]; exact a3⟩
theorem szH_le (left : Int) (r : Hdr) : szH left r ≤ left ∨ szH left r = -1 := by
  unfold szH
  split
  · exact .inr rfl
  · split
    · exact .inr rfl
    · left; omega
theorem drop_hdr (l : List Hdr) (k : Nat) (r : Hdr) (h : l[k]? = some r) : l.drop k = r :: l.drop (k + 1) := by
  obtain ⟨hk, rfl⟩ := List.getElem?_eq_some_iff.1 h
  exact List.drop_eq_getElem_cons hk
end Go.Proofs.YtmnblligifgcjaaGreatDoor
/-
  Word bytes: the table, plainly. No Go in sight.
-/
namespace Go.Proofs.YtmnblligifgcjaaGreatDoor
def wordTab : List Bool := [false, false, false, false, false, false, false, false, false, false, false, false, false, false, false, false, false, false, false, false, false, false, false, false, false, false, false, false, false, false, false, false, false, true, false, true, true, true, true, true, false, false, true, true, false, true, true, false, true, true, true, true, true, true, true, true, true, true, false, false, false, false, false, false, false, true, true, true, true, true, true, true, true, true, true, true, true, true, true, true, true, true, true, true, true, true, true, true, true, true, true, false, false, false, true, true, false, true, true, true, true, true, true, true, true, true, true, true, true, true, true, true, true, true, true, true, true, true, true, true, true, true, true, false, true, false, true, false]
def wordI (c : Int) : Bool := wordTab.getD c.toNat false
theorem wordTab_len : wordTab.length = 128 := by decide +kernel
/-- One of the signs that are no letter and no digit. -/
def signI (c : Nat) : Bool := [33, 35, 36, 37, 38, 39, 42, 43, 45, 46, 94, 95, 124, 126].contains c
theorem table_all : ∀ c : Fin 256, wordTab.getD c.val false = (signI c.val || (decide (97 ≤ c.val) && decide (c.val ≤ 122)) || (decide (65 ≤ c.val) && decide (c.val ≤ 90)) || (decide (48 ≤ c.val) && decide (c.val ≤ 57))) := by decide +kernel
theorem wordI_eq (c : Int) (h0 : 0 ≤ c) (h1 : c < 256) : wordI c = (signI c.toNat || (decide (97 ≤ c) && decide (c ≤ 122)) || (decide (65 ≤ c) && decide (c ≤ 90)) || (decide (48 ≤ c) && decide (c ≤ 57))) := by
  obtain ⟨n, rfl⟩ := Int.eq_ofNat_of_zero_le h0
  have h2 : n < 256 := by omega
  have := table_all ⟨n, h2⟩
  simp only at this
  rw [wordI, Int.toNat_natCast, this]
  have e : ∀ a : Nat, decide (a ≤ n) = decide ((a : Int) ≤ (n : Int)) := fun a => by simp
  have e' : ∀ a : Nat, decide (n ≤ a) = decide ((n : Int) ≤ (a : Int)) := fun a => by simp
  simp only [e, e']
  rfl
theorem wordI_big (c : Int) (h : 128 ≤ c) : wordI c = false := by
  have hl := wordTab_len
  unfold wordI
  rw [List.getD_eq_getElem?_getD, List.getElem?_eq_none (by omega)]
  rfl
def allW (l : List UInt8) : Bool := l.all fun c => wordI (c.toNat : Int)
theorem allW_snoc (l : List UInt8) (c : UInt8) : allW (l ++ [c]) = (allW l && wordI (c.toNat : Int)) := by simp [allW]
theorem allW_of_take (l : List UInt8) (k : Nat) (h : allW (l.take k) = false) : allW l = false := by
  have e := List.take_append_drop k l
  rw [← e]
  simp only [allW] at h ⊢
  rw [List.all_append, h, Bool.false_and]
theorem allW_not (s : ByteArray) (k : Nat) (h : k < s.size) (hd : wordI (s[k].toNat : Int) = false) : allW s.data.toList = false := by
  refine allW_of_take _ (k + 1) ?_
  rw [take_snoc s k h, allW_snoc, hd, Bool.and_false]
def wordS (s : ByteArray) : Bool := decide (1 ≤ s.size) && decide (s.size ≤ 64) && allW s.data.toList
theorem wordS_short (s : ByteArray) (h : s.size < 1) : wordS s = false := by simp [wordS]; omega
theorem wordS_long (s : ByteArray) (h : 64 < s.size) : wordS s = false := by simp [wordS]; omega
theorem wordS_mid (s : ByteArray) (h1 : 1 ≤ s.size) (h2 : s.size ≤ 64) : wordS s = allW s.data.toList := by simp [wordS, h1, h2]
end Go.Proofs.YtmnblligifgcjaaGreatDoor
/-
  Quotes, plainly. No Go in sight.
-/
namespace Go.Proofs.YtmnblligifgcjaaGreatDoor
def plainI (c : Int) : Bool := c == 9 || (decide (32 ≤ c) && decide (c ≤ 126))
def plainL (l : List UInt8) : Bool := l.all fun c => plainI (c.toNat : Int)
theorem plainL_snoc (l : List UInt8) (c : UInt8) : plainL (l ++ [c]) = (plainL l && plainI (c.toNat : Int)) := by simp [plainL]
theorem plainL_of_take (l : List UInt8) (k : Nat) (h : plainL (l.take k) = false) : plainL l = false := by
  have e := List.take_append_drop k l
  rw [← e]
  simp only [plainL] at h ⊢
  rw [List.all_append, h, Bool.false_and]
theorem plainL_not (s : ByteArray) (k : Nat) (h : k < s.size) (hd : plainI (s[k].toNat : Int) = false) : plainL s.data.toList = false := by
  refine plainL_of_take _ (k + 1) ?_
  rw [take_snoc s k h, plainL_snoc, hd, Bool.and_false]
/-- One byte between quotes. -/
def quoteC (c : UInt8) : List UInt8 := if (c.toNat : Int) = 34 ∨ (c.toNat : Int) = 92 then [92, c] else [c]
def quoteB (l : List UInt8) : List UInt8 := l.flatMap quoteC
def quoteL (l : List UInt8) : List UInt8 := [34] ++ quoteB l ++ [34]
theorem quoteB_snoc (l : List UInt8) (c : UInt8) : quoteB (l ++ [c]) = quoteB l ++ quoteC c := by simp [quoteB]
theorem quoteC_yes {c : UInt8} (h : (c.toNat : Int) = 34 ∨ (c.toNat : Int) = 92) : quoteC c = [92, c] := by simp only [quoteC, if_pos h]
theorem quoteC_no {c : UInt8} (h : ¬ ((c.toNat : Int) = 34 ∨ (c.toNat : Int) = 92)) : quoteC c = [c] := by simp only [quoteC, if_neg h]
theorem quoteC_len (c : UInt8) : (quoteC c).length ≤ 2 := by unfold quoteC; split <;> simp
theorem quoteB_len (l : List UInt8) : (quoteB l).length ≤ 2 * l.length := by
  induction l with
  | nil => simp [quoteB]
  | cons c r ih =>
    have := quoteC_len c
    simp only [quoteB, List.flatMap_cons, List.length_append, List.length_cons] at ih ⊢
    omega
theorem quoteB_ge (l : List UInt8) : l.length ≤ (quoteB l).length := by
  induction l with
  | nil => simp
  | cons c r ih =>
    have : 1 ≤ (quoteC c).length := by unfold quoteC; split <;> simp
    simp only [quoteB, List.flatMap_cons, List.length_append, List.length_cons] at ih ⊢
    omega
/-- What stands between quotes, read from behind the first one; acc: what was taken. -/
def unq (acc : List UInt8) : List UInt8 → List UInt8 × Bool
  | [] => ([], false)
  | [c] => if (c.toNat : Int) = 34 then (acc, true) else ([], false)
  | c :: d :: r => if (c.toNat : Int) = 34 then (acc, false) else if (c.toNat : Int) = 92 then unq (acc ++ [d]) r else unq (acc ++ [c]) (d :: r)
/-- A text between quotes: what it tells, and whether it does. -/
def unqT (l : List UInt8) : List UInt8 × Bool := if 2 ≤ l.length ∧ l.head? = some 34 ∧ plainL l = true then unq [] l.tail else ([], false)
theorem unq_end (acc r : List UInt8) (c : UInt8) (h : (c.toNat : Int) = 34) : unq acc (c :: r) = (acc, decide (r = [])) := by
  cases r with
  | nil => rw [unq, if_pos h]; rfl
  | cons d r => rw [unq, if_pos h]; simp
theorem unq_cut (acc : List UInt8) (c : UInt8) (h : (c.toNat : Int) = 92) : unq acc [c] = ([], false) := by
  rw [unq, if_neg (by omega)]
theorem unq_esc (acc r : List UInt8) (c d : UInt8) (h : (c.toNat : Int) = 92) : unq acc (c :: d :: r) = unq (acc ++ [d]) r := by
  rw [unq, if_neg (by omega), if_pos h]
theorem unq_take (acc r : List UInt8) (c : UInt8) (h1 : ¬ (c.toNat : Int) = 34) (h2 : ¬ (c.toNat : Int) = 92) : unq acc (c :: r) = unq (acc ++ [c]) r := by
  cases r with
  | nil => simp only [unq, if_neg h1]
  | cons d r => rw [unq, if_neg h1, if_neg h2]
/-- What was quoted is read as it was. -/
theorem unq_quote (l : List UInt8) : ∀ acc, unq acc (quoteB l ++ [34]) = (acc ++ l, true) := by
  induction l with
  | nil => intro acc; rw [show quoteB [] ++ [34] = [34] from rfl, unq_end _ _ _ (by decide)]; simp
  | cons c r ih =>
    intro acc
    have e : quoteB (c :: r) ++ [34] = quoteC c ++ (quoteB r ++ [34]) := by simp [quoteB]
    rw [e]
    by_cases h : (c.toNat : Int) = 34 ∨ (c.toNat : Int) = 92
    · rw [quoteC_yes h]
      show unq acc (92 :: c :: (quoteB r ++ [34])) = _
      rw [unq_esc _ _ _ _ (by decide), ih]; simp
    · rw [quoteC_no h]
      show unq acc (c :: (quoteB r ++ [34])) = _
      rw [unq_take _ _ _ (by omega) (by omega), ih]; simp
theorem plain_quoteB (l : List UInt8) (h : plainL l = true) : plainL (quoteB l) = true := by
  induction l with
  | nil => rfl
  | cons c r ih =>
    simp only [plainL, List.all_cons, Bool.and_eq_true] at h
    have e : quoteB (c :: r) = quoteC c ++ quoteB r := by simp [quoteB]
    rw [e]
    simp only [plainL, List.all_append, Bool.and_eq_true]
    refine ⟨?_, ih h.2⟩
    unfold quoteC
    split
    · simp [h.1]; decide
    · simp [h.1]
theorem unqT_quote (l : List UInt8) (h : plainL l = true) : unqT (quoteL l) = (l, true) := by
  have hp : plainL (quoteL l) = true := by
    simp only [quoteL, plainL, List.all_append, Bool.and_eq_true]
    exact ⟨⟨by decide, plain_quoteB l h⟩, by decide⟩
  unfold unqT
  rw [if_pos ⟨by simp [quoteL], rfl, hp⟩]
  show unq [] (quoteB l ++ [34]) = _
  rw [unq_quote]; simp
end Go.Proofs.YtmnblligifgcjaaGreatDoor
/-
  Blanks at both ends: plainly. No Go in sight.
-/
namespace Go.Proofs.YtmnblligifgcjaaGreatDoor
def blankI (c : Int) : Bool := c == 32 || c == 9
def trimT (s : ByteArray) : ByteArray := ⟨(Lib.trimS s.data.toList [32, 9]).toArray⟩
theorem contains_blank (b : UInt8) : [(32 : UInt8), 9].contains b = blankI (b.toNat : Int) := by
  rw [Bool.eq_iff_iff]
  simp [blankI, List.contains_eq_mem]
  constructor
  · rintro (rfl | rfl) <;> simp
  · rintro (h | h)
    · exact .inl (UInt8.toNat_inj.1 (by simpa using (by omega : b.toNat = 32)))
    · exact .inr (UInt8.toNat_inj.1 (by simpa using (by omega : b.toNat = 9)))
theorem trim_between (l : List UInt8) (k m : Nat) (hkm : k ≤ m) (hm : m ≤ l.length)
    (h1 : ∀ (j : Nat) b, j < k → l[j]? = some b → blankI (b.toNat : Int) = true) (h2 : ∀ b, k < l.length → l[k]? = some b → blankI (b.toNat : Int) = false)
    (h3 : ∀ (j : Nat) b, m ≤ j → l[j]? = some b → blankI (b.toNat : Int) = true) (h4 : ∀ b, k < m → l[m - 1]? = some b → blankI (b.toNat : Int) = false) :
    Lib.trimS l [32, 9] = (l.take m).drop k := by
  by_cases e : k < m
  · have er : Lib.trimRightS l [32, 9] = l.take m := by
      refine Lib.trimRightS_take l _ m hm (fun j b hj hb => ?_) (fun b _ hb => ?_)
      · rw [contains_blank]; exact h3 j b hj hb
      · rw [contains_blank]; exact h4 b e hb
    unfold Lib.trimS
    rw [er]
    refine Lib.trimLeftS_drop _ _ k (by simp; omega) (fun j b hj hb => ?_) (fun b hb => ?_)
    · rw [List.getElem?_take_of_lt (by omega)] at hb
      rw [contains_blank]; exact h1 j b hj hb
    · rw [List.getElem?_take_of_lt (by omega)] at hb
      rw [contains_blank]; exact h2 b (by omega) hb
  · obtain rfl : k = m := by omega
    have ek : k = l.length := by
      by_cases c : k < l.length
      · have a := h2 _ c (List.getElem?_eq_getElem c)
        have b := h3 k _ (Nat.le_refl _) (List.getElem?_eq_getElem c)
        rw [a] at b; cases b
      · omega
    have er : Lib.trimRightS l [32, 9] = l.take 0 := by
      refine Lib.trimRightS_take l _ 0 (Nat.zero_le _) (fun j b _ hb => ?_) (fun b h0 _ => absurd h0 (by omega))
      have hj : j < l.length := (List.getElem?_eq_some_iff.1 hb).1
      rw [contains_blank]; exact h1 j b (by omega) hb
    unfold Lib.trimS
    rw [er]
    simp [Lib.trimLeftS, ek]
theorem trim_extract (s : ByteArray) (k m : Nat) (h : Lib.trimS s.data.toList [32, 9] = (s.data.toList.take m).drop k) : s.extract k m = trimT s := by
  apply ByteArray.ext
  unfold trimT
  rw [h]
  apply Array.ext'
  simp [List.drop_take]
end Go.Proofs.YtmnblligifgcjaaGreatDoor
/-
  A row of bytes in memory, and small letters: no function of the program in sight.
-/
namespace Go.Proofs.YtmnblligifgcjaaGreatDoor
/-- The block B holds the bytes l from its head on, none of them frozen. -/
structure BRow (w : World) (B : Nat) (l : List UInt8) : Prop where
  cell : ∀ j (hj : j < l.length), w.cell? ⟨B, j, none⟩ = some (.int .u8 (l[j].toNat : Int))
  free : ∀ j, j < l.length → w.frozen? ⟨B, j, none⟩ = false
theorem BRow.set {w : World} {B : Nat} {l : List UInt8} (h : BRow w B l) (k : Nat) (x : UInt8) : BRow (w.setCell ⟨B, k, none⟩ (.int .u8 (x.toNat : Int))) B (l.set k x) := by
  constructor
  · intro j hj
    simp only [List.length_set] at hj
    by_cases e : k = j
    · subst e
      rw [World.cell?_setCell_same _ _ _ (h.cell k hj)]
      simp
    · rw [World.cell?_setCell_other _ _ _ _ (by intro h2; exact e (congrArg Addr.off h2)), h.cell j hj, List.getElem_set_ne e]
  · intro j hj
    simp only [List.length_set] at hj
    rw [World.frozen?_setCell]
    exact h.free j hj
/-- What a conversion from a text lays. -/
theorem BRow.made (w : World) (s : ByteArray) (cap : Nat) (C : Array Value) (hC : C = bytesRow s cap) : BRow (w.alloc (.cells C 5 (C.size, C.size + 1))) w.heap.size s.data.toList := by
  subst hC
  have hsz : s.data.size ≤ (bytesRow s cap).size := by simp [bytesRow]
  constructor
  · intro j hj
    have hj' : j < s.data.size := by simpa using hj
    rw [World.cell?_alloc_mark, bytesRow_at s cap j hj']
    simp
  · intro j hj
    have hj' : j < s.data.size := by simpa using hj
    rw [World.frozen?_alloc_mark]
    simp
    omega
theorem BRow.back {P : Program} {w : World} {B : Nat} {l : List UInt8} (h : BRow w B l) (src dst e : TypeId) (n cap : Nat) (hn : n = l.length) (hs : P.underlying src = some (.slice e)) (he : P.underlying e = some (.int .u8)) (hd : P.underlying dst = some .string) :
    (convert src dst (.slice (some ⟨B, 0, none⟩) n cap)).run P w = .ok (.string ⟨l.toArray⟩) w := by
  subst hn
  refine run_convert_bytes_back w src dst e ⟨B, 0, none⟩ cap l hs he hd ?_
  intro j hj
  have := h.cell j hj
  by_cases e : j = 0
  · subst e; simpa [Addr.add] using this
  · simpa [Addr.add, e] using this
def lowU (c : UInt8) : UInt8 := if 65 ≤ (c.toNat : Int) ∧ (c.toNat : Int) ≤ 90 then UInt8.ofNat (c.toNat + 32) else c
theorem lowU_yes (c : UInt8) (h1 : 65 ≤ (c.toNat : Int)) (h2 : (c.toNat : Int) ≤ 90) : ((lowU c).toNat : Int) = (c.toNat : Int) + 32 := by
  unfold lowU
  rw [if_pos ⟨h1, h2⟩]
  simp
  omega
theorem lowU_no (c : UInt8) (h : ¬ (65 ≤ (c.toNat : Int) ∧ (c.toNat : Int) ≤ 90)) : lowU c = c := by
  unfold lowU
  rw [if_neg h]
/-- The bytes behind k rounds. -/
def lowK (l : List UInt8) (k : Nat) : List UInt8 := (l.take k).map lowU ++ l.drop k
theorem lowK_zero (l : List UInt8) : lowK l 0 = l := by simp [lowK]
theorem lowK_all (l : List UInt8) (k : Nat) (h : l.length ≤ k) : lowK l k = l.map lowU := by
  simp [lowK, List.take_of_length_le h, List.drop_of_length_le h]
theorem lowK_length (l : List UInt8) (k : Nat) : (lowK l k).length = l.length := by simp [lowK]; omega
theorem lowK_at? (l : List UInt8) (k : Nat) (h : k < l.length) : (lowK l k)[k]? = some l[k] := by
  unfold lowK
  rw [List.getElem?_append_right (by simp; omega)]
  simp [Nat.min_eq_left (Nat.le_of_lt h)]
theorem lowK_at (l : List UInt8) (k : Nat) (h : k < l.length) (h' : k < (lowK l k).length) : (lowK l k)[k] = l[k] := by
  have := lowK_at? l k h
  rw [List.getElem?_eq_getElem h'] at this
  exact Option.some.inj this
theorem lowK_succ (l : List UInt8) (k : Nat) (h : k < l.length) : lowK l (k + 1) = (lowK l k).set k (lowU l[k]) := by
  have hm : min k l.length = k := Nat.min_eq_left (Nat.le_of_lt h)
  unfold lowK
  rw [List.take_succ_eq_append_getElem h, List.map_append, List.drop_eq_getElem_cons h]
  rw [List.set_append_right _ _ (by simp [hm])]
  simp only [List.length_map, List.length_take, hm, Nat.sub_self, List.set_cons_zero, List.map_cons, List.map_nil, List.append_assoc, List.cons_append, List.nil_append]
theorem lowK_keep (l : List UInt8) (k : Nat) (h : k < l.length) (hn : ¬ (65 ≤ (l[k].toNat : Int) ∧ (l[k].toNat : Int) ≤ 90)) : lowK l (k + 1) = lowK l k := by
  have h2 : k < (lowK l k).length := by rw [lowK_length]; exact h
  rw [lowK_succ l k h, lowU_no _ hn, ← lowK_at l k h h2, List.set_getElem_self]
end Go.Proofs.YtmnblligifgcjaaGreatDoor
/-
  What the model's l1Lower answers.
-/
namespace Go.Proofs.YtmnblligifgcjaaGreatDoor
open Go.ChangeShapes Go.WideShapes Go.ChangeAt Go.RowKit
def lowS (s : ByteArray) : ByteArray := ⟨(s.data.toList.map lowU).toArray⟩
set_option maxHeartbeats 1000000 in
theorem l1Lower_any (s : ByteArray) (w : World) (hs : s.size ≤ 1048576) :
    Calls Tryz.prog 67 #[.string s] w fun e w' => e = .returned (.string (lowS s)) ∧ Below w.heap.size w w' := by
  obtain ⟨C, cap, hcv, hrow⟩ : ∃ C cap, (convert 9 22 (.string s)).run Tryz.prog w = .ok (.slice (some ⟨w.heap.size, 0, none⟩) s.size cap) (w.drew.alloc (.cells C 5 (C.size, C.size + 1))) ∧ BRow (w.alloc (.cells C 5 (C.size, C.size + 1))) w.heap.size s.data.toList :=
    ⟨_, _, run_bytes_of_string w 9 22 5 s Tryz.underlying9 Tryz.underlying22 Tryz.underlying5, BRow.made w s _ _ rfl⟩
  go_enter Tryz.func67, Tryz.ntmps67
  go_wp2
  go_loopw [4] (fun i wr => ∃ k : Nat, k ≤ s.size ∧ i = .int .i64 k ∧ BRow wr w.heap.size (lowK s.data.toList k) ∧ Below w.heap.size w wr) (fun i _ => s.size - (intOf i).toNat)
  case atStart => exact ⟨0, Nat.zero_le _, rfl, by rw [lowK_zero]; exact ⟨hrow.cell, hrow.free⟩, ((Below.refl _ _).alloc (Nat.le_refl _) _).drew⟩
  case round =>
    obtain ⟨k, hk, rfl, hr, hb⟩ := hrel
    clear hcv hrow
    have hlen := lowK_length s.data.toList k
    by_cases hlt : k < s.size
    · have hl : k < s.data.toList.length := by simpa using hlt
      have hl2 : k < (lowK s.data.toList k).length := by omega
      have hc := hr.cell k hl2
      have hf := hr.free k hl2
      rw [lowK_at _ _ hl hl2] at hc
      have Y : Hid (65 ≤ (s.data.toList[k].toNat : Int) ∧ (s.data.toList[k].toNat : Int) ≤ 90 → BRow (wr.setCell ⟨w.heap.size, k, none⟩ (.int .u8 ((s.data.toList[k].toNat : Int) + 32))) w.heap.size (lowK s.data.toList (k + 1))) := by
        intro ⟨u1, u2⟩
        have := hr.set k (lowU s.data.toList[k])
        rw [lowU_yes _ u1 u2] at this
        rw [lowK_succ _ _ hl]
        exact this
      have N : Hid (¬ (65 ≤ (s.data.toList[k].toNat : Int) ∧ (s.data.toList[k].toNat : Int) ≤ 90) → BRow wr w.heap.size (lowK s.data.toList (k + 1))) := by
        intro u
        rw [lowK_keep _ _ hl u]
        exact hr
      generalize s.data.toList[k] = x at *
      clear hr hlen hl2 hl
      by_cases hU : 65 ≤ (x.toNat : Int) ∧ (x.toNat : Int) ≤ 90
      · have R : Hid (BRow (wr.setCell ⟨w.heap.size, k, none⟩ (.int .u8 ((x.toNat : Int) + 32))) w.heap.size (lowK s.data.toList (k + 1))) := Y.out hU
        obtain ⟨u1, u2⟩ := hU
        have d2 : decide ((x.toNat : Int) ≤ 90) = true := by simpa using u2
        clear Y N
        go_wp2
        go_roundw
        case rel => exact ⟨k + 1, by omega, by go_num, R.out, hb.setCell (Nat.le_refl _) _⟩
        case measure => simp [intOf]; omega
      · have R : Hid (BRow wr w.heap.size (lowK s.data.toList (k + 1))) := N.out hU
        clear Y N
        by_cases u1 : 65 ≤ (x.toNat : Int)
        · have u2 : 90 < (x.toNat : Int) := by omega
          have d2 : decide ((x.toNat : Int) ≤ 90) = false := by simp; omega
          clear hU
          go_wp2
          go_roundw
          case rel => exact ⟨k + 1, by omega, by go_num, R.out, hb⟩
          case measure => simp [intOf]; omega
        · clear hU
          go_wp2
          go_roundw
          case rel => exact ⟨k + 1, by omega, by go_num, R.out, hb⟩
          case measure => simp [intOf]; omega
    · have e : lowK s.data.toList k = s.data.toList.map lowU := lowK_all _ _ (by simp; omega)
      rw [e] at hr
      have hback := hr.back (P := Tryz.prog) 22 9 5 s.size cap (by simp) Tryz.underlying22 Tryz.underlying5 Tryz.underlying9
      have HL : Hid ((⟨(s.data.toList.map lowU).toArray⟩ : ByteArray) = lowS s) := rfl
      generalize (⟨(s.data.toList.map lowU).toArray⟩ : ByteArray) = r at *
      clear hr e hlen
      go_wp2
      go_ret
      exact ⟨ret_str HL.out, hb⟩
end Go.Proofs.YtmnblligifgcjaaGreatDoor
/-
  Head lines, plainly: their faults, their text, how they are found, set and dropped. No Go in sight.
-/
namespace Go.Proofs.YtmnblligifgcjaaGreatDoor
def faultH (r : Hdr) : Int := if wordS r.name = false then 5 else if 200 < r.value.size then 2 else if plainL r.value.data.toList = false then 5 else if trimT r.value = r.value then 0 else 5
def faultHL : List Hdr → Int
  | [] => 0
  | r :: l => if faultH r = 0 then faultHL l else faultH r
theorem faultHL_ok {r : Hdr} {l : List Hdr} (h : faultH r = 0) : faultHL (r :: l) = faultHL l := by rw [faultHL, if_pos h]
theorem faultHL_bad {r : Hdr} {l : List Hdr} (h : faultH r ≠ 0) : faultHL (r :: l) = faultH r := by rw [faultHL, if_neg h]
def headsC (l : List Hdr) : Int := if 20 < l.length then 2 else faultHL l
theorem headsC_many {l : List Hdr} (h : 20 < l.length) : headsC l = 2 := by unfold headsC; rw [if_pos h]
theorem headsC_few {l : List Hdr} (h : ¬ 20 < l.length) : headsC l = faultHL l := by unfold headsC; rw [if_neg h]
theorem faultH_zero {r : Hdr} (h : faultH r = 0) : wordS r.name = true ∧ r.value.size ≤ 200 ∧ plainL r.value.data.toList = true ∧ trimT r.value = r.value := by
  unfold faultH at h
  by_cases c1 : wordS r.name = false
  · rw [if_pos c1] at h; omega
  rw [if_neg c1] at h
  by_cases c2 : 200 < r.value.size
  · rw [if_pos c2] at h; omega
  rw [if_neg c2] at h
  by_cases c3 : plainL r.value.data.toList = false
  · rw [if_pos c3] at h; omega
  rw [if_neg c3] at h
  by_cases c4 : trimT r.value = r.value
  · exact ⟨by simpa using c1, by omega, by simpa using c3, c4⟩
  · rw [if_neg c4] at h; omega
theorem faultHL_zero (l : List Hdr) (h : faultHL l = 0) : ∀ (i : Nat) r, l[i]? = some r → faultH r = 0 := by
  induction l with
  | nil => intro i r hr; simp at hr
  | cons x l ih =>
    intro i r hr
    by_cases c : faultH x = 0
    · rw [faultHL_ok c] at h
      cases i with
      | zero => simp at hr; subst hr; exact c
      | succ i => exact ih h i r (by simpa using hr)
    · rw [faultHL_bad c] at h; exact absurd h c
theorem faultHL_of (l : List Hdr) (h : ∀ r ∈ l, faultH r = 0) : faultHL l = 0 := by
  induction l with
  | nil => rfl
  | cons x l ih => rw [faultHL_ok (h x (by simp))]; exact ih fun r hr => h r (by simp [hr])
theorem headsC_zero {l : List Hdr} (h : headsC l = 0) : l.length ≤ 20 ∧ ∀ (i : Nat) r, l[i]? = some r → faultH r = 0 := by
  by_cases c : 20 < l.length
  · rw [headsC_many c] at h; omega
  · rw [headsC_few c] at h; exact ⟨by omega, faultHL_zero l h⟩
theorem hword_max {s : ByteArray} (h : wordS s = true) : s.size ≤ 64 := by
  by_cases c : 64 < s.size
  · rw [wordS_long s c] at h; cases h
  · omega
theorem take_hdr {l : List Hdr} {k : Nat} {r : Hdr} (h : l[k]? = some r) : l.take (k + 1) = l.take k ++ [r] := by rw [List.take_add_one, h]; rfl
theorem happ_list (a b : ByteArray) : (a ++ b).data.toList = a.data.toList ++ b.data.toList := by simp
theorem hof_list {a : ByteArray} {l : List UInt8} (h : a.data.toList = l) : a = ⟨l.toArray⟩ := by subst h; cases a; simp
theorem hret_ct {a b : Int} {s t : ByteArray} (h : a = b ∧ s = t) : Ending.returned (.agg #[.int .i64 b, .string t]) = .returned (.agg #[.int .i64 a, .string s]) := by rw [h.1, h.2]
/-! ### their text -/
def lineL (r : Hdr) : List UInt8 := r.name.data.toList ++ [58, 32] ++ r.value.data.toList ++ [13, 10]
def packL (l : List Hdr) : List UInt8 := l.flatMap lineL
theorem packL_take {l : List Hdr} {k : Nat} {r : Hdr} (h : l[k]? = some r) : packL (l.take (k + 1)) = packL (l.take k) ++ lineL r := by rw [take_hdr h]; simp [packL]
theorem lineL_len {r : Hdr} (h : faultH r = 0) : (lineL r).length ≤ 268 := by
  obtain ⟨h1, h2, _⟩ := faultH_zero h
  have := hword_max h1
  have e1 : r.name.data.toList.length = r.name.size := by simp
  have e2 : r.value.data.toList.length = r.value.size := by simp
  simp only [lineL, List.length_append, List.length_cons, List.length_nil]
  omega
def packT (l : List Hdr) : ByteArray := if headsC l = 0 then ⟨(packL l).toArray⟩ else ⟨#[]⟩
theorem packT_ok {l : List Hdr} (h : headsC l = 0) : packT l = ⟨(packL l).toArray⟩ := by unfold packT; rw [if_pos h]
theorem packT_bad {l : List Hdr} (h : headsC l ≠ 0) : packT l = ⟨#[]⟩ := by unfold packT; rw [if_neg h]
/-! ### names that are alike -/
def askC (l : List Hdr) (name : ByteArray) : Int := if headsC l = 0 then (if wordS name = true then 0 else 5) else headsC l
theorem askC_bad {l : List Hdr} {name : ByteArray} (h : headsC l ≠ 0) : askC l name = headsC l := by unfold askC; rw [if_neg h]
theorem askC_word {l : List Hdr} {name : ByteArray} (h : headsC l = 0) (hw : wordS name = true) : askC l name = 0 := by unfold askC; rw [if_pos h, if_pos hw]
theorem askC_text {l : List Hdr} {name : ByteArray} (h : headsC l = 0) (hw : wordS name = false) : askC l name = 5 := by unfold askC; rw [if_pos h, if_neg (by rw [hw]; decide)]
theorem askC_zero {l : List Hdr} {name : ByteArray} (h : askC l name = 0) : headsC l = 0 ∧ wordS name = true := by
  by_cases c : headsC l = 0
  · cases hw : wordS name
    · rw [askC_text c hw] at h; omega
    · exact ⟨c, rfl⟩
  · rw [askC_bad c] at h; exact absurd h c
/-- The values of all lines whose name, in small letters, is x. -/
def valsOf (x : ByteArray) (l : List Hdr) : List ByteArray := (l.filter fun r => decide (lowS r.name = x)).map (·.value)
theorem valsOf_yes {x : ByteArray} {r : Hdr} (l : List Hdr) (h : lowS r.name = x) : valsOf x (l ++ [r]) = valsOf x l ++ [r.value] := by simp [valsOf, h]
theorem valsOf_no {x : ByteArray} {r : Hdr} (l : List Hdr) (h : ¬ lowS r.name = x) : valsOf x (l ++ [r]) = valsOf x l := by simp [valsOf, h]
def hjoinL (vs : List ByteArray) : List UInt8 := Lib.join (vs.map (·.data.toList)) [44, 32]
theorem hjoinL_snoc (vs : List ByteArray) (v : ByteArray) : hjoinL (vs ++ [v]) = hjoinL vs ++ (if vs = [] then [] else [44, 32]) ++ v.data.toList := by
  unfold hjoinL
  cases vs with
  | nil => simp [Lib.join, List.intercalate]
  | cons a r =>
    rw [List.map_append, List.map_cons, List.cons_append, Lib.join_cons, Lib.join_cons]
    simp [Lib.joinTail]
def joinC (l : List Hdr) (name : ByteArray) : Int := if askC l name = 0 then (if valsOf (lowS name) l = [] then 4 else 0) else askC l name
def joinT (l : List Hdr) (name : ByteArray) : ByteArray := if joinC l name = 0 then ⟨(hjoinL (valsOf (lowS name) l)).toArray⟩ else ⟨#[]⟩
theorem join_bad {l : List Hdr} {name : ByteArray} (h : askC l name ≠ 0) : joinC l name = askC l name ∧ joinT l name = ⟨#[]⟩ := by
  have e : joinC l name = askC l name := by unfold joinC; rw [if_neg h]
  exact ⟨e, by unfold joinT; rw [if_neg (by rw [e]; exact h)]⟩
theorem join_none {l : List Hdr} {name : ByteArray} (h : askC l name = 0) (hv : valsOf (lowS name) l = []) : joinC l name = 4 ∧ joinT l name = ⟨#[]⟩ := by
  have e : joinC l name = 4 := by unfold joinC; rw [if_pos h, if_pos hv]
  exact ⟨e, by unfold joinT; rw [if_neg (by rw [e]; decide)]⟩
theorem join_some {l : List Hdr} {name : ByteArray} (h : askC l name = 0) (hv : valsOf (lowS name) l ≠ []) : joinC l name = 0 ∧ joinT l name = ⟨(hjoinL (valsOf (lowS name) l)).toArray⟩ := by
  have e : joinC l name = 0 := by unfold joinC; rw [if_pos h, if_neg hv]
  exact ⟨e, by unfold joinT; rw [if_pos e]⟩
/-- What is left without the lines whose name, in small letters, is x. -/
def dropH (x : ByteArray) (l : List Hdr) : List Hdr := l.filter fun r => decide (¬ lowS r.name = x)
theorem dropH_yes {x : ByteArray} {r : Hdr} (l : List Hdr) (h : lowS r.name = x) : dropH x (l ++ [r]) = dropH x l := by simp [dropH, h]
theorem dropH_no {x : ByteArray} {r : Hdr} (l : List Hdr) (h : ¬ lowS r.name = x) : dropH x (l ++ [r]) = dropH x l ++ [r] := by simp [dropH, h]
theorem dropH_len (x : ByteArray) (l : List Hdr) : (dropH x l).length ≤ l.length := List.length_filter_le _ _
def dropL (l : List Hdr) (name : ByteArray) : List Hdr := if askC l name = 0 then dropH (lowS name) l else []
/-- Where the first line of that name stands. -/
def firstAt (x : ByteArray) : List Hdr → Option Nat
  | [] => none
  | r :: l => if lowS r.name = x then some 0 else (firstAt x l).map (· + 1)
theorem firstAt_none {x : ByteArray} : ∀ {l : List Hdr}, firstAt x l = none → ∀ r ∈ l, ¬ lowS r.name = x
  | [], _, r, hr => by simp at hr
  | y :: l, h, r, hr => by
    by_cases c : lowS y.name = x
    · rw [firstAt, if_pos c] at h; cases h
    · rw [firstAt, if_neg c] at h
      rcases List.mem_cons.1 hr with rfl | hr
      · exact c
      · exact firstAt_none (Option.map_eq_none_iff.1 h) r hr
theorem firstAt_lt {x : ByteArray} : ∀ {l : List Hdr} {i : Nat}, firstAt x l = some i → i < l.length
  | [], i, h => by simp [firstAt] at h
  | y :: l, i, h => by
    by_cases c : lowS y.name = x
    · rw [firstAt, if_pos c] at h; obtain rfl := Option.some.inj h; simp
    · rw [firstAt, if_neg c] at h
      obtain ⟨j, hj, rfl⟩ := Option.map_eq_some_iff.1 h
      have := firstAt_lt hj
      simp only [List.length_cons]; omega
theorem firstAt_snoc {x : ByteArray} (r : Hdr) : ∀ (l : List Hdr), firstAt x (l ++ [r]) = match firstAt x l with | some i => some i | none => if lowS r.name = x then some l.length else none
  | [] => by simp [firstAt]
  | y :: l => by
    by_cases c : lowS y.name = x
    · simp [firstAt, c]
    · simp only [List.cons_append, firstAt, if_neg c]
      rw [firstAt_snoc r l]
      cases firstAt x l with
      | some i => rfl
      | none => simp only [Option.map_none]; split <;> simp
theorem valsOf_first {x : ByteArray} : ∀ {l : List Hdr}, valsOf x l = [] ↔ firstAt x l = none
  | [] => by simp [valsOf, firstAt]
  | y :: l => by
    by_cases c : lowS y.name = x
    · simp [valsOf, firstAt, c]
    · have := @valsOf_first x l
      simp only [valsOf] at this
      simp only [valsOf, firstAt, List.filter_cons, c, decide_false, Bool.false_eq_true, if_false, this, Option.map_eq_none_iff]
theorem valsOf_drop {x : ByteArray} : ∀ {l : List Hdr} {i : Nat}, firstAt x l = some i → valsOf x (l.drop i) = valsOf x l ∧ valsOf x (l.take i) = []
  | [], i, h => by simp [firstAt] at h
  | y :: l, i, h => by
    by_cases c : lowS y.name = x
    · rw [firstAt, if_pos c] at h; obtain rfl := Option.some.inj h; simp [valsOf]
    · rw [firstAt, if_neg c] at h
      obtain ⟨j, hj, rfl⟩ := Option.map_eq_some_iff.1 h
      have := valsOf_drop hj
      simp only [valsOf] at this
      simp only [valsOf, List.drop_succ_cons, List.take_succ_cons, List.filter_cons, c, decide_false, Bool.false_eq_true, if_false]
      exact this
/-- A line set. -/
def setGo (h : Hdr) : Bool → List Hdr → List Hdr
  | done, [] => if done = true then [] else [h]
  | done, r :: l => if lowS r.name = lowS h.name then (if done = true then setGo h true l else h :: setGo h true l) else r :: setGo h done l
theorem setGo_done (h : Hdr) : ∀ l : List Hdr, setGo h true l = dropH (lowS h.name) l
  | [] => by simp [setGo, dropH]
  | r :: l => by
    have ih := setGo_done h l
    by_cases c : lowS r.name = lowS h.name
    · simp only [setGo, if_true, ih, dropH, List.filter_cons, c, not_true_eq_false, decide_false, Bool.false_eq_true, if_false]
    · simp [setGo, ih, dropH, c]
theorem setGo_first (h : Hdr) : ∀ (l : List Hdr), setGo h false l = match firstAt (lowS h.name) l with
    | some i => (dropH (lowS h.name) l).take i ++ [h] ++ (dropH (lowS h.name) l).drop i
    | none => dropH (lowS h.name) l ++ [h]
  | [] => by simp [setGo, firstAt, dropH]
  | r :: l => by
    have ih := setGo_first h l
    by_cases c : lowS r.name = lowS h.name
    · simp only [setGo, firstAt, setGo_done, dropH, List.filter_cons, c, not_true_eq_false, decide_false, Bool.false_eq_true, if_false]
      simp
    · simp only [setGo, if_neg c, firstAt]
      rw [ih]
      have e : dropH (lowS h.name) (r :: l) = r :: dropH (lowS h.name) l := by simp [dropH, c]
      rw [e]
      cases firstAt (lowS h.name) l with
      | none => simp
      | some i => simp
theorem dropH_all {x : ByteArray} {l : List Hdr} (h : firstAt x l = none) : dropH x l = l := by
  unfold dropH
  rw [List.filter_eq_self]
  intro r hr
  simpa using firstAt_none h r hr
theorem setGo_len (h : Hdr) (l : List Hdr) : (setGo h false l).length = match firstAt (lowS h.name) l with | some _ => (dropH (lowS h.name) l).length + 1 | none => l.length + 1 := by
  rw [setGo_first]
  cases c : firstAt (lowS h.name) l with
  | none => simp [dropH_all c]
  | some i =>
    simp only [List.length_append, List.length_cons, List.length_nil, List.length_take, List.length_drop]
    omega
theorem dropH_lt {x : ByteArray} {i : Nat} : ∀ {l : List Hdr}, firstAt x l = some i → (dropH x l).length < l.length
  | [], h => by simp [firstAt] at h
  | r :: l, h => by
    by_cases c : lowS r.name = x
    · have := dropH_len x l
      simp only [dropH] at this
      simp only [dropH, List.filter_cons, c, not_true_eq_false, decide_false, Bool.false_eq_true, if_false, List.length_cons]
      omega
    · rw [firstAt, if_neg c] at h
      obtain ⟨j, hj, rfl⟩ := Option.map_eq_some_iff.1 h
      have := dropH_lt hj
      simp only [dropH] at this
      simp only [dropH, List.filter_cons, c, not_false_eq_true, decide_true, if_true, List.length_cons]
      omega
def setC (l : List Hdr) (h : Hdr) : Int := if askC l h.name = 0 then (if faultH h = 0 then (if 20 < (setGo h false l).length then 2 else 0) else faultH h) else askC l h.name
def setL (l : List Hdr) (h : Hdr) : List Hdr := if setC l h = 0 then setGo h false l else []
end Go.Proofs.YtmnblligifgcjaaGreatDoor
/-
  Requests and responses, plainly: their faults. No Go in sight.
-/
namespace Go.Proofs.YtmnblligifgcjaaGreatDoor
def allP (p : Int → Bool) (l : List UInt8) : Bool := l.all fun c => p (c.toNat : Int)
theorem allP_snoc (p : Int → Bool) (l : List UInt8) (c : UInt8) : allP p (l ++ [c]) = (allP p l && p (c.toNat : Int)) := by simp [allP]
theorem allP_of_take (p : Int → Bool) (l : List UInt8) (k : Nat) (h : allP p (l.take k) = false) : allP p l = false := by
  have e := List.take_append_drop k l
  rw [← e]
  simp only [allP] at h ⊢
  rw [List.all_append, h, Bool.false_and]
theorem allP_not (p : Int → Bool) (s : ByteArray) (k : Nat) (h : k < s.size) (hd : p (s[k].toNat : Int) = false) : allP p s.data.toList = false := by
  refine allP_of_take p _ (k + 1) ?_
  rw [take_snoc s k h, allP_snoc, hd, Bool.and_false]
theorem allP_mem {p : Int → Bool} {l : List UInt8} (h : allP p l = true) : ∀ c ∈ l, p (c.toNat : Int) = true := by
  simpa [allP] using h
theorem allP_of_mem {p : Int → Bool} {l : List UInt8} (h : ∀ c ∈ l, p (c.toNat : Int) = true) : allP p l = true := by
  simpa [allP] using h
def hostI (c : Int) : Bool := (decide (97 ≤ c) && decide (c ≤ 122)) || (decide (65 ≤ c) && decide (c ≤ 90)) || (decide (48 ≤ c) && decide (c ≤ 57)) || decide (c = 46) || decide (c = 45)
theorem hostI_big (c : Int) (h : 128 ≤ c) : hostI c = false := by
  simp [hostI]; omega
def markI (c : Nat) : Bool := [47, 63, 61, 38, 58, 64, 44, 59, 40, 41].contains c
def pathI (c : Int) : Bool := markI c.toNat || wordI c
theorem pathI_big (c : Int) (h : 128 ≤ c) : pathI c = false := by
  have e : markI c.toNat = false := by
    have : 128 ≤ c.toNat := by omega
    simp [markI]; omega
  rw [pathI, e, wordI_big c h]; rfl
def hostS (s : ByteArray) : Bool := decide (1 ≤ s.size) && decide (s.size ≤ 60) && allP hostI s.data.toList
theorem hostS_short (s : ByteArray) (h : s.size < 1) : hostS s = false := by simp [hostS]; omega
theorem hostS_long (s : ByteArray) (h : 60 < s.size) : hostS s = false := by simp [hostS]; omega
theorem hostS_mid (s : ByteArray) (h1 : 1 ≤ s.size) (h2 : s.size ≤ 60) : hostS s = allP hostI s.data.toList := by simp [hostS, h1, h2]
def pathS (s : ByteArray) : Bool := decide (s.data.toList.head? = some 47) && decide (s.size ≤ 100) && allP pathI s.data.toList
theorem pathS_first (s : ByteArray) (h : ¬ s.data.toList.head? = some 47) : pathS s = false := by simp [pathS, h]
theorem pathS_long (s : ByteArray) (h : 100 < s.size) : pathS s = false := by
  have : ¬ s.size ≤ 100 := by omega
  simp [pathS, this]
theorem pathS_mid (s : ByteArray) (h1 : s.data.toList.head? = some 47) (h2 : s.size ≤ 100) : pathS s = allP pathI s.data.toList := by simp [pathS, h1, h2]
theorem head_get (s : ByteArray) (h : 0 < s.size) : s.data.toList.head? = some s[0] := by
  rw [List.head?_eq_getElem?, List.getElem?_eq_getElem (by simpa using h)]; rfl
theorem head_none (s : ByteArray) (h : s.size < 1) : s.data.toList.head? = none := by
  have : s.data.toList = [] := List.eq_nil_of_length_eq_zero (by rw [Array.length_toList]; exact Nat.lt_one_iff.1 h)
  rw [this]; rfl
def getT : ByteArray := ⟨#[71, 69, 84]⟩
def headT : ByteArray := ⟨#[72, 69, 65, 68]⟩
def hostN : ByteArray := ⟨#[104, 111, 115, 116]⟩
def methS (m : ByteArray) : Bool := decide (m = getT) || decide (m = headT)
def lineS (m h p : ByteArray) : Bool := methS m && hostS h && pathS p
def restC (l : List Hdr) : Int := if headsC l = 0 then (if valsOf hostN l = [] then (if 20 ≤ l.length then 2 else 0) else 6) else headsC l
def reqC (m h p : ByteArray) (l : List Hdr) : Int := if lineS m h p = true then restC l else 5
theorem reqC_bad {m h p : ByteArray} {l : List Hdr} (c : lineS m h p = false) : reqC m h p l = 5 := by rw [reqC, if_neg (by rw [c]; decide)]
theorem reqC_ok {m h p : ByteArray} {l : List Hdr} (c : lineS m h p = true) : reqC m h p l = restC l := by rw [reqC, if_pos c]
theorem restC_heads {l : List Hdr} (h : headsC l ≠ 0) : restC l = headsC l := by rw [restC, if_neg h]
theorem restC_host {l : List Hdr} (h : headsC l = 0) (hv : valsOf hostN l ≠ []) : restC l = 6 := by rw [restC, if_pos h, if_neg hv]
theorem restC_many {l : List Hdr} (h : headsC l = 0) (hv : valsOf hostN l = []) (hn : 20 ≤ l.length) : restC l = 2 := by rw [restC, if_pos h, if_pos hv, if_pos hn]
theorem restC_ok {l : List Hdr} (h : headsC l = 0) (hv : valsOf hostN l = []) (hn : ¬ 20 ≤ l.length) : restC l = 0 := by rw [restC, if_pos h, if_pos hv, if_neg hn]
theorem headsC_codes (l : List Hdr) : headsC l = 0 ∨ headsC l = 2 ∨ headsC l = 5 := by
  have h1 : ∀ r, faultH r = 0 ∨ faultH r = 2 ∨ faultH r = 5 := fun r => by
    unfold faultH
    repeat' split
    all_goals simp
  have h2 : ∀ l, faultHL l = 0 ∨ faultHL l = 2 ∨ faultHL l = 5 := fun l => by
    induction l with
    | nil => exact .inl rfl
    | cons r l ih =>
      by_cases c : faultH r = 0
      · rw [faultHL_ok c]; exact ih
      · rw [faultHL_bad c]; exact h1 r
  by_cases c : 20 < l.length
  · rw [headsC_many c]; simp
  · rw [headsC_few c]; exact h2 l
theorem restC_codes (l : List Hdr) : restC l = 0 ∨ restC l = 2 ∨ restC l = 5 ∨ restC l = 6 := by
  have := headsC_codes l
  unfold restC
  repeat' split
  all_goals omega
theorem reqC_codes (m h p : ByteArray) (l : List Hdr) : reqC m h p l = 0 ∨ reqC m h p l = 2 ∨ reqC m h p l = 5 ∨ reqC m h p l = 6 := by
  have := restC_codes l
  unfold reqC
  split <;> omega
/-- A request that has no fault. -/
theorem reqC_zero {m h p : ByteArray} {l : List Hdr} (c : reqC m h p l = 0) : lineS m h p = true ∧ headsC l = 0 ∧ valsOf hostN l = [] ∧ l.length < 20 := by
  cases hl : lineS m h p
  · rw [reqC_bad hl] at c; omega
  rw [reqC_ok hl] at c
  by_cases c1 : headsC l = 0
  · by_cases c2 : valsOf hostN l = []
    · by_cases c3 : 20 ≤ l.length
      · rw [restC_many c1 c2 c3] at c; omega
      · exact ⟨rfl, c1, c2, by omega⟩
    · rw [restC_host c1 c2] at c; omega
  · rw [restC_heads c1] at c; exact absurd c c1
theorem lineS_true {m h p : ByteArray} (c : lineS m h p = true) : methS m = true ∧ hostS h = true ∧ pathS p = true := by
  simp only [lineS, Bool.and_eq_true] at c; exact ⟨c.1.1, c.1.2, c.2⟩
def respC (s : Int) (l : List Hdr) (n : Nat) : Int := if s < 200 ∨ 599 < s then 3 else if headsC l = 0 then (if 2000 < n then 2 else 0) else headsC l
theorem respC_range {s : Int} {l : List Hdr} {n : Nat} (h : s < 200 ∨ 599 < s) : respC s l n = 3 := by rw [respC, if_pos h]
theorem respC_heads {s : Int} {l : List Hdr} {n : Nat} (h : ¬ (s < 200 ∨ 599 < s)) (h1 : headsC l ≠ 0) : respC s l n = headsC l := by rw [respC, if_neg h, if_neg h1]
theorem respC_many {s : Int} {l : List Hdr} {n : Nat} (h : ¬ (s < 200 ∨ 599 < s)) (h1 : headsC l = 0) (h2 : 2000 < n) : respC s l n = 2 := by rw [respC, if_neg h, if_pos h1, if_pos h2]
theorem respC_ok {s : Int} {l : List Hdr} {n : Nat} (h : ¬ (s < 200 ∨ 599 < s)) (h1 : headsC l = 0) (h2 : ¬ 2000 < n) : respC s l n = 0 := by rw [respC, if_neg h, if_pos h1, if_neg h2]
theorem respC_codes (s : Int) (l : List Hdr) (n : Nat) : respC s l n = 0 ∨ respC s l n = 2 ∨ respC s l n = 3 ∨ respC s l n = 5 := by
  have := headsC_codes l
  unfold respC
  repeat' split
  all_goals omega
theorem respC_zero {s : Int} {l : List Hdr} {n : Nat} (c : respC s l n = 0) : 200 ≤ s ∧ s ≤ 599 ∧ headsC l = 0 ∧ n ≤ 2000 := by
  by_cases c1 : s < 200 ∨ 599 < s
  · rw [respC_range c1] at c; omega
  by_cases c2 : headsC l = 0
  · by_cases c3 : 2000 < n
    · rw [respC_many c1 c2 c3] at c; omega
    · exact ⟨by omega, by omega, c2, by omega⟩
  · rw [respC_heads c1 c2] at c; exact absurd c c2
end Go.Proofs.YtmnblligifgcjaaGreatDoor
/-
  Keys, plainly: what is cut at a byte, what is sorted. No Go in sight.
-/
namespace Go.Proofs.YtmnblligifgcjaaGreatDoor
/-- A text cut at each byte c; cur: what stands ahead of it in its piece. -/
def cutG (c : UInt8) : List UInt8 → List UInt8 → List (List UInt8)
  | cur, [] => [cur]
  | cur, x :: l => if x = c then cur :: cutG c [] l else cutG c (cur ++ [x]) l
theorem cutG_at {c : UInt8} (cur l : List UInt8) : cutG c cur (c :: l) = cur :: cutG c [] l := by rw [cutG, if_pos rfl]
theorem cutG_on {c x : UInt8} (cur l : List UInt8) (h : ¬ x = c) : cutG c cur (x :: l) = cutG c (cur ++ [x]) l := by rw [cutG, if_neg h]
theorem cutG_ne (c : UInt8) : ∀ (l cur : List UInt8), cutG c cur l ≠ []
  | [], cur => by simp [cutG]
  | x :: l, cur => by
    rw [cutG]
    split
    · simp
    · exact cutG_ne c l _
/-- The pieces that are not empty. -/
def fullP (ps : List (List UInt8)) : List (List UInt8) := ps.filter fun p => !p.isEmpty
theorem fullP_cons_nil (ps : List (List UInt8)) : fullP ([] :: ps) = fullP ps := rfl
theorem fullP_cons (p : List UInt8) (ps : List (List UInt8)) (h : p ≠ []) : fullP (p :: ps) = p :: fullP ps := by
  cases p with
  | nil => exact absurd rfl h
  | cons x p => rfl
theorem fullP_snoc_nil (ps : List (List UInt8)) : fullP (ps ++ [[]]) = fullP ps := by simp [fullP]
theorem fullP_snoc (ps : List (List UInt8)) (p : List UInt8) (h : p ≠ []) : fullP (ps ++ [p]) = fullP ps ++ [p] := by
  cases p with
  | nil => exact absurd rfl h
  | cons x p => simp [fullP]
def amp (r : Nat) : Bool := r == 38
def spanT (s : ByteArray) (x : Nat × Nat) : ByteArray := s.extract x.1 x.2
def spanL (s : ByteArray) (x : Nat × Nat) : List UInt8 := (s.data.toList.take x.2).drop x.1
theorem spanT_eq (s : ByteArray) (x : Nat × Nat) : spanT s x = ⟨(spanL s x).toArray⟩ := by
  apply ByteArray.ext
  unfold spanT spanL
  apply Array.ext'
  simp [List.drop_take]
theorem spans_amp (s : ByteArray) (ha : ∀ (i : Nat) (h : i < s.size), s[i].toNat < 128) : ∀ (f pos : Nat) (st : Option Nat) (acc : List (Nat × Nat)), s.size ≤ pos + f → pos ≤ s.size →
    (match st with | some a => a < pos | none => True) →
    (Lib.closeSpans s (Lib.spansFromP amp s f pos st acc)).map (spanL s) = acc.map (spanL s) ++ fullP (cutG 38 (match st with | some a => spanL s (a, pos) | none => []) (s.data.toList.drop pos)) := by
  intro f
  induction f with
  | zero =>
    intro pos st acc h1 h2 h3
    have e : pos = s.size := by omega
    subst e
    have ed : s.data.toList.drop s.size = [] := List.drop_of_length_le (by simp)
    rw [ed, Lib.spansFromP]
    cases st with
    | none => simp [Lib.closeSpans, cutG, fullP]
    | some a =>
      have hne : spanL s (a, s.size) ≠ [] := by
        intro e
        have := congrArg List.length e
        simp [spanL] at this
        omega
      simp only [Lib.closeSpans, cutG, List.map_append, List.map_cons, List.map_nil]
      rw [fullP_cons _ _ hne]; rfl
  | succ f ih =>
    intro pos st acc h1 h2 h3
    by_cases hp : pos < s.size
    · have hd := decode_ascii s pos hp (ha pos hp)
      have el : s.data.toList.drop pos = s[pos] :: s.data.toList.drop (pos + 1) := by
        rw [List.drop_eq_getElem_cons (by simpa using hp)]; rfl
      have sn : ∀ a, a ≤ pos → spanL s (a, pos + 1) = spanL s (a, pos) ++ [s[pos]] := fun a hap => by
        unfold spanL
        simp only
        rw [take_snoc s pos hp, List.drop_append_of_le_length (by simp; omega)]
      unfold Lib.spansFromP
      rw [if_pos hp, hd]
      simp only
      by_cases hc : s[pos] = 38
      · have hpp : amp s[pos].toNat = true := by rw [hc]; rfl
        rw [hpp, if_pos rfl, el, hc, cutG_at]
        cases st with
        | none =>
          simp only
          rw [ih (pos + 1) none acc (by omega) (by omega) trivial, fullP_cons_nil]
        | some a =>
          simp only at h3 ⊢
          have hne : spanL s (a, pos) ≠ [] := by
            intro e
            have := congrArg List.length e
            simp [spanL] at this
            omega
          rw [ih (pos + 1) none _ (by omega) (by omega) trivial, fullP_cons _ _ hne]
          simp
      · have hpp : amp s[pos].toNat = false := by
          unfold amp
          rw [beq_eq_false_iff_ne]
          intro e
          exact hc (UInt8.toNat_inj.1 (by simpa using e))
        rw [hpp, if_neg (by decide), el, cutG_on _ _ hc]
        cases st with
        | none =>
          simp only
          rw [ih (pos + 1) (some pos) acc (by omega) (by omega) (by simp)]
          simp only
          rw [sn pos (Nat.le_refl _)]
          have : spanL s (pos, pos) = [] := by simp [spanL]
          rw [this]
        | some a =>
          simp only at h3 ⊢
          rw [ih (pos + 1) (some a) acc (by omega) (by omega) (by simp only; omega)]
          simp only
          rw [sn a (by omega)]
    · have e : pos = s.size := by omega
      subst e
      have ed : s.data.toList.drop s.size = [] := List.drop_of_length_le (by simp)
      rw [Lib.spansFromP_end _ _ _ _ _ _ hp, ed]
      cases st with
      | none => simp [Lib.closeSpans, cutG, fullP]
      | some a =>
        have hne : spanL s (a, s.size) ≠ [] := by
          intro e
          have := congrArg List.length e
          simp [spanL] at this
          simp only at h3
          omega
        simp only [Lib.closeSpans, cutG, List.map_append, List.map_cons, List.map_nil]
        rw [fullP_cons _ _ hne]; rfl
theorem fields_amp (s : ByteArray) (ha : ∀ (i : Nat) (h : i < s.size), s[i].toNat < 128) : Lib.goFieldsP amp s = (fullP (cutG 38 [] s.data.toList)).map fun p => (⟨p.toArray⟩ : ByteArray) := by
  have h := spans_amp s ha s.size 0 none [] (by omega) (Nat.zero_le _) trivial
  simp only [List.map_nil, List.nil_append, List.drop_zero] at h
  unfold Lib.goFieldsP Lib.spansOfP
  rw [← h, List.map_map]
  apply List.map_congr_left
  intro x _
  exact spanT_eq s x
/-! ### sorted texts -/
/-- A text put into a sorted list, behind all that are not greater. -/
def putS (x : List UInt8) : List (List UInt8) → List (List UInt8)
  | [] => [x]
  | y :: l => if y ≤ x then y :: putS x l else x :: y :: l
def sortS (l : List (List UInt8)) : List (List UInt8) := l.foldl (fun o x => putS x o) []
theorem sortS_snoc (l : List (List UInt8)) (x : List UInt8) : sortS (l ++ [x]) = putS x (sortS l) := by simp [sortS]
theorem putS_perm (x : List UInt8) : ∀ l : List (List UInt8), (putS x l).Perm (x :: l)
  | [] => List.Perm.refl _
  | y :: l => by
    rw [putS]
    split
    · exact ((putS_perm x l).cons y).trans (List.Perm.swap x y l)
    · exact List.Perm.refl _
theorem sortS_perm (l : List (List UInt8)) : (sortS l).Perm l := by
  have : ∀ (l o : List (List UInt8)), (l.foldl (fun o x => putS x o) o).Perm (o ++ l) := fun l => by
    induction l with
    | nil => intro o; simp
    | cons x l ih =>
      intro o
      refine (ih (putS x o)).trans ?_
      refine ((putS_perm x o).append_right l).trans ?_
      simpa using (List.perm_middle (a := x) (l₁ := o) (l₂ := l)).symm
  simpa [sortS] using this l []
theorem list_le_trans {a b c : List UInt8} (h1 : a ≤ b) (h2 : b ≤ c) : a ≤ c := List.le_trans h1 h2
theorem list_le_total (a b : List UInt8) : a ≤ b ∨ b ≤ a := List.le_total a b
theorem putS_sorted (x : List UInt8) : ∀ l : List (List UInt8), l.Pairwise (· ≤ ·) → (putS x l).Pairwise (· ≤ ·)
  | [], _ => by simp [putS]
  | y :: l, h => by
    rw [putS]
    obtain ⟨h1, h2⟩ := List.pairwise_cons.1 h
    split
    · rename_i hy
      refine List.pairwise_cons.2 ⟨fun z hz => ?_, putS_sorted x l h2⟩
      rcases List.mem_cons.1 ((putS_perm x l).mem_iff.1 hz) with rfl | hz
      · exact hy
      · exact h1 z hz
    · rename_i hy
      have hxy : x ≤ y := (list_le_total x y).resolve_right hy
      refine List.pairwise_cons.2 ⟨fun z hz => ?_, h⟩
      rcases List.mem_cons.1 hz with rfl | hz
      · exact hxy
      · exact list_le_trans hxy (h1 z hz)
theorem sortS_sorted (l : List (List UInt8)) : (sortS l).Pairwise (· ≤ ·) := by
  have : ∀ (l o : List (List UInt8)), o.Pairwise (· ≤ ·) → (l.foldl (fun o x => putS x o) o).Pairwise (· ≤ ·) := fun l => by
    induction l with
    | nil => intro o h; exact h
    | cons x l ih => intro o h; exact ih _ (putS_sorted x o h)
  exact this l [] List.Pairwise.nil
theorem merge_eq (l : List (List UInt8)) : (l.mergeSort fun x y => decide (x ≤ y)) = sortS l := by
  have h1 : (l.mergeSort fun x y => decide (x ≤ y)).Pairwise (· ≤ ·) := by
    have := List.pairwise_mergeSort (le := fun x y : List UInt8 => decide (x ≤ y)) (fun a b c h1 h2 => by simp only [decide_eq_true_eq] at *; exact list_le_trans h1 h2) (fun a b => by simpa using list_le_total a b) l
    simpa using this
  exact List.Perm.eq_of_pairwise (fun a b _ _ h1 h2 => List.le_antisymm h1 h2) h1 (sortS_sorted l) ((List.mergeSort_perm l _).trans (sortS_perm l).symm)
end Go.Proofs.YtmnblligifgcjaaGreatDoor
/-
  Head lines read from a text, plainly. No Go in sight.
-/
namespace Go.Proofs.YtmnblligifgcjaaGreatDoor
/-- Where the first bytes 13 and 10 stand; the length where there are none. -/
def crAt : List UInt8 → Nat
  | [] => 0
  | [_] => 1
  | c :: d :: r => if c = 13 ∧ d = 10 then 0 else 1 + crAt (d :: r)
theorem crAt_le : ∀ l : List UInt8, crAt l ≤ l.length
  | [] => Nat.le_refl _
  | [_] => Nat.le_refl _
  | c :: d :: r => by
    have := crAt_le (d :: r)
    rw [crAt]
    split
    · exact Nat.zero_le _
    · simp only [List.length_cons] at this ⊢; omega
theorem crAt_room : ∀ l : List UInt8, crAt l < l.length → crAt l + 2 ≤ l.length
  | [], h => by simp [crAt] at h
  | [_], h => by simp [crAt] at h
  | c :: d :: r, h => by
    rw [crAt] at h ⊢
    by_cases e : c = 13 ∧ d = 10
    · rw [if_pos e]; simp only [List.length_cons]; omega
    · rw [if_neg e] at h ⊢
      have := crAt_room (d :: r) (by simp only [List.length_cons] at h ⊢; omega)
      simp only [List.length_cons] at this ⊢; omega
theorem crAt_on : ∀ (l : List UInt8) (k : Nat), k ≤ crAt l → (h : k + 1 < l.length) → (l[k] = 13 ∧ l[k + 1] = 10 → crAt l = k) ∧ (¬ (l[k] = 13 ∧ l[k + 1] = 10) → k + 1 ≤ crAt l)
  | [], k, _, h => by simp at h
  | [_], k, _, h => by simp at h
  | c :: d :: r, 0, _, h => by
    refine ⟨fun e => ?_, fun e => ?_⟩
    · rw [crAt, if_pos (by simpa using e)]
    · rw [crAt, if_neg (by simpa using e)]; omega
  | c :: d :: r, k + 1, hk, h => by
    rw [crAt] at hk ⊢
    by_cases e : c = 13 ∧ d = 10
    · rw [if_pos e] at hk; omega
    · rw [if_neg e] at hk ⊢
      have ih := crAt_on (d :: r) k (by omega) (by simp only [List.length_cons] at h ⊢; omega)
      refine ⟨fun x => ?_, fun x => ?_⟩
      · have := ih.1 (by simpa using x); omega
      · have := ih.2 (by simpa using x); omega
theorem crAt_end (l : List UInt8) (k : Nat) (hk : k ≤ crAt l) (h : ¬ k + 1 < l.length) : crAt l = l.length := by
  have h1 := crAt_le l
  by_cases c : crAt l < l.length
  · have := crAt_room l c; omega
  · omega
theorem crAt_is : ∀ l : List UInt8, crAt l < l.length → ([13, 10] : List UInt8).isPrefixOf (l.drop (crAt l)) = true
  | [], h => by simp [crAt] at h
  | [_], h => by simp [crAt] at h
  | c :: d :: r, h => by
    rw [crAt] at h ⊢
    by_cases e : c = 13 ∧ d = 10
    · rw [if_pos e]; simp [e.1, e.2, List.isPrefixOf]
    · rw [if_neg e] at h ⊢
      have := crAt_is (d :: r) (by simp only [List.length_cons] at h ⊢; omega)
      rw [show 1 + crAt (d :: r) = crAt (d :: r) + 1 from by omega, List.drop_succ_cons]
      exact this
theorem crAt_not : ∀ (l : List UInt8) (j : Nat), j < crAt l → ([13, 10] : List UInt8).isPrefixOf (l.drop j) = false
  | [], j, h => by simp [crAt] at h
  | [x], j, h => by
    have : j = 0 := by simp [crAt] at h; omega
    subst this
    simp [List.isPrefixOf]
  | c :: d :: r, j, h => by
    rw [crAt] at h
    by_cases e : c = 13 ∧ d = 10
    · rw [if_pos e] at h; omega
    · rw [if_neg e] at h
      cases j with
      | zero =>
        simp only [List.drop_zero, List.isPrefixOf, Bool.and_true]
        by_cases e1 : c = 13
        · have e2 : ¬ d = 10 := fun x => e ⟨e1, x⟩
          have : ((10 : UInt8) == d) = false := by rw [beq_eq_false_iff_ne]; exact fun x => e2 x.symm
          rw [this, Bool.and_false]
        · have : ((13 : UInt8) == c) = false := by rw [beq_eq_false_iff_ne]; exact fun x => e1 x.symm
          rw [this, Bool.false_and]
      | succ j => rw [List.drop_succ_cons]; exact crAt_not (d :: r) j (by omega)
theorem index_cr (l : List UInt8) : Lib.index l [13, 10] = if crAt l < l.length then (crAt l : Int) else -1 := by
  by_cases h : crAt l < l.length
  · rw [if_pos h]
    exact Lib.index_first (Nat.le_of_lt h) (crAt_is l h) (fun j hj => crAt_not l j hj)
  · rw [if_neg h]
    have e : crAt l = l.length := by have := crAt_le l; omega
    refine Lib.index_none fun j hj => ?_
    by_cases c : j < crAt l
    · exact crAt_not l j c
    · have : j = l.length := by omega
      subst this
      simp [Lib.occAt]
theorem cut_cr {l : List UInt8} (h : crAt l < l.length) : Lib.cut l [13, 10] = (l.take (crAt l), l.drop (crAt l + 2), true) := by
  unfold Lib.cut
  rw [index_cr, if_pos h, if_pos (by omega)]
  rfl
/-- Where the first colon stands; the length where there is none. -/
def clAt : List UInt8 → Nat
  | [] => 0
  | c :: r => if c = 58 then 0 else 1 + clAt r
theorem clAt_le : ∀ l : List UInt8, clAt l ≤ l.length
  | [] => Nat.le_refl _
  | c :: r => by
    have := clAt_le r
    rw [clAt]
    split
    · exact Nat.zero_le _
    · simp only [List.length_cons]; omega
theorem clAt_on : ∀ (l : List UInt8) (k : Nat), k ≤ clAt l → (h : k < l.length) → (l[k] = 58 → clAt l = k) ∧ (¬ l[k] = 58 → k + 1 ≤ clAt l)
  | [], k, _, h => by simp at h
  | c :: r, 0, _, h => by
    refine ⟨fun e => ?_, fun e => ?_⟩
    · rw [clAt, if_pos (by simpa using e)]
    · rw [clAt, if_neg (by simpa using e)]; omega
  | c :: r, k + 1, hk, h => by
    rw [clAt] at hk ⊢
    by_cases e : c = 58
    · rw [if_pos e] at hk; omega
    · rw [if_neg e] at hk ⊢
      have ih := clAt_on r k (by omega) (by simp only [List.length_cons] at h; omega)
      refine ⟨fun x => ?_, fun x => ?_⟩
      · have := ih.1 (by simpa using x); omega
      · have := ih.2 (by simpa using x); omega
theorem index_cl : ∀ l : List UInt8, Lib.index l [58] = if clAt l < l.length then (clAt l : Int) else -1
  | [] => by simp [Lib.index, clAt]
  | c :: r => by
    have ih := index_cl r
    rw [Lib.index, clAt]
    by_cases h : c = 58
    · rw [if_pos (by simp [List.isPrefixOf, h]), if_pos h]; simp
    · have h2 : ([58] : List UInt8).isPrefixOf (c :: r) = false := by
        simp only [List.isPrefixOf, Bool.and_true, beq_eq_false_iff_ne]
        exact fun x => h x.symm
      rw [h2, if_neg h, ih]
      by_cases q : clAt r < r.length
      · have q2 : 1 + clAt r < (c :: r).length := by simp only [List.length_cons]; omega
        have e1 : ((clAt r : Int) == -1) = false := by rw [beq_eq_false_iff_ne]; omega
        simp only [Bool.false_eq_true, if_false, if_pos q, if_pos q2, e1]
        omega
      · have q2 : ¬ 1 + clAt r < (c :: r).length := by simp only [List.length_cons]; omega
        simp only [Bool.false_eq_true, if_false, if_neg q, if_neg q2]
        rfl
theorem cut_cl {l : List UInt8} (h : clAt l < l.length) : Lib.cut l [58] = (l.take (clAt l), l.drop (clAt l + 1), true) := by
  unfold Lib.cut
  rw [index_cl, if_pos h, if_pos (by omega)]
  rfl
theorem cut_cl_no {l : List UInt8} (h : ¬ clAt l < l.length) : Lib.cut l [58] = (l, [], false) := by
  unfold Lib.cut
  rw [index_cl, if_neg h, if_neg (by omega)]
def hmk (p : List UInt8) : ByteArray := ⟨p.toArray⟩
theorem hmk_size (p : List UInt8) : (hmk p).size = p.length := by simp [hmk, ByteArray.size]
theorem hmk_list (p : List UInt8) : (hmk p).data.toList = p := by simp [hmk]
def lineOf (p : List UInt8) : Hdr := ⟨hmk (p.take (clAt p)), trimT (hmk (p.drop (clAt p + 1)))⟩
def lineR (p : List UInt8) : Option Hdr := if clAt p < p.length then some (lineOf p) else none
theorem lineR_yes {p : List UInt8} (h : clAt p < p.length) : lineR p = some (lineOf p) := by unfold lineR; rw [if_pos h]
theorem lineR_no {p : List UInt8} (h : ¬ clAt p < p.length) : lineR p = none := by unfold lineR; rw [if_neg h]
/-- The lines that the bytes 13 and 10 end; none: the last one is not ended. -/
def linesO (l : List UInt8) : Option (List (List UInt8)) :=
  if _h : l = [] then some [] else if crAt l < l.length then (linesO (l.drop (crAt l + 2))).map (l.take (crAt l) :: ·) else none
termination_by l.length
decreasing_by
  have := List.length_pos_iff.2 _h
  simp only [List.length_drop]; omega
theorem linesO_nil : linesO [] = some [] := by rw [linesO]; simp
theorem linesO_cut {l : List UInt8} (h : crAt l < l.length) : linesO l = (linesO (l.drop (crAt l + 2))).map (l.take (crAt l) :: ·) := by
  have h0 : ¬ l = [] := fun e => by subst e; simp [crAt] at h
  rw [linesO, dif_neg h0, if_pos h]
theorem linesO_bad {l : List UInt8} (h0 : ¬ l = []) (h : ¬ crAt l < l.length) : linesO l = none := by
  rw [linesO, dif_neg h0, if_neg h]
theorem linesO_len : ∀ (n : Nat) (l : List UInt8) (P : List (List UInt8)), l.length ≤ n → linesO l = some P → P.length ≤ l.length ∧ ∀ p ∈ P, p.length ≤ l.length := by
  intro n
  induction n with
  | zero =>
    intro l P hn h
    have : l = [] := List.eq_nil_of_length_eq_zero (by omega)
    subst this
    rw [linesO_nil] at h
    obtain rfl := Option.some.inj h
    simp
  | succ n ih =>
    intro l P hn h
    by_cases h0 : l = []
    · subst h0
      rw [linesO_nil] at h
      obtain rfl := Option.some.inj h
      simp
    · by_cases hc : crAt l < l.length
      · rw [linesO_cut hc] at h
        obtain ⟨Q, hQ, rfl⟩ := Option.map_eq_some_iff.1 h
        have hl := List.length_pos_iff.2 h0
        have := ih _ Q (by simp only [List.length_drop]; omega) hQ
        simp only [List.length_drop] at this
        refine ⟨by simp only [List.length_cons]; omega, fun p hp => ?_⟩
        rcases List.mem_cons.1 hp with rfl | hp
        · simp only [List.length_take]; omega
        · have := this.2 p hp; omega
      · rw [linesO_bad h0 hc] at h; cases h
theorem suffix_far {a b : UInt8} {p r : List UInt8} (h : 2 ≤ r.length) : ([a, b].isSuffixOf (p ++ r)) = ([a, b].isSuffixOf r) := by
  rw [Bool.eq_iff_iff, List.isSuffixOf_iff_suffix, List.isSuffixOf_iff_suffix]
  constructor
  · intro hs
    exact List.suffix_of_suffix_length_le hs (List.suffix_append _ _) (by simpa using h)
  · intro hs
    exact hs.trans (List.suffix_append _ _)
theorem linesO_suffix : ∀ (n : Nat) (l : List UInt8), l.length ≤ n → ¬ l = [] → (linesO l).isSome = ([13, 10] : List UInt8).isSuffixOf l := by
  intro n
  induction n with
  | zero => intro l hn h0; exact absurd (List.eq_nil_of_length_eq_zero (by omega)) h0
  | succ n ih =>
    intro l hn h0
    by_cases hc : crAt l < l.length
    · have hr := crAt_room l hc
      have hi := crAt_is l hc
      rw [linesO_cut hc, Option.isSome_map]
      have e : l = l.take (crAt l) ++ ([13, 10] ++ l.drop (crAt l + 2)) := by
        have h1 := (List.take_append_drop (crAt l) l).symm
        obtain ⟨t, ht⟩ := List.isPrefixOf_iff_prefix.1 hi
        have h2 : t = l.drop (crAt l + 2) := by
          have := congrArg (List.drop 2) ht
          simp only [List.drop_drop] at this
          simpa using this
        rw [← h2, ht]
        exact h1
      by_cases h3 : l.drop (crAt l + 2) = []
      · rw [h3, linesO_nil]
        rw [h3] at e
        symm
        rw [Option.isSome_some, List.isSuffixOf_iff_suffix, e]
        exact List.suffix_append _ _
      · rw [ih _ (by simp only [List.length_drop]; have := List.length_pos_iff.2 h0; omega) h3]
        generalize l.drop (crAt l + 2) = r at *
        generalize l.take (crAt l) = p at *
        subst e
        by_cases h4 : 2 ≤ r.length
        · rw [← List.append_assoc, suffix_far h4]
        · match r, h3, h4 with
          | [x], _, _ =>
            rw [Bool.eq_iff_iff, List.isSuffixOf_iff_suffix, List.isSuffixOf_iff_suffix]
            constructor
            · intro hs; have := hs.length_le; simp at this
            · rintro ⟨q, hq⟩
              have hq2 : (q ++ [13]) ++ [10] = (p ++ [13]) ++ ([10] ++ [x]) := by simpa using hq
              have h5 := congrArg List.reverse hq2
              simp at h5
          | _ :: _ :: _, _, h4 => exact absurd (by simp) h4
    · rw [linesO_bad h0 hc]
      symm
      rw [Option.isSome_none]
      cases hs : ([13, 10] : List UInt8).isSuffixOf l
      · rfl
      · obtain ⟨q, hq⟩ := List.isSuffixOf_iff_suffix.1 hs
        have hl : l.length = q.length + 2 := by rw [← hq]; simp
        have := crAt_le l
        have hn2 := crAt_not l q.length (by omega)
        rw [← hq] at hn2
        simp [List.isPrefixOf] at hn2
/-- All lines read. -/
def readLs : List (List UInt8) → Option (List Hdr)
  | [] => some []
  | p :: ps => match lineR p with
    | none => none
    | some r => (readLs ps).map (r :: ·)
theorem readLs_bad {p : List UInt8} {ps : List (List UInt8)} (h : ¬ clAt p < p.length) : readLs (p :: ps) = none := by rw [readLs, lineR_no h]
theorem readLs_take {p : List UInt8} {ps : List (List UInt8)} (h : clAt p < p.length) : readLs (p :: ps) = (readLs ps).map (lineOf p :: ·) := by rw [readLs, lineR_yes h]
def readT (l : List UInt8) : Option (List Hdr) := (linesO l).bind readLs
theorem readT_nil : readT [] = some [] := by unfold readT; rw [linesO_nil]; rfl
theorem readT_bad {l : List UInt8} (h : crAt l < l.length) (h2 : ¬ clAt (l.take (crAt l)) < (l.take (crAt l)).length) : readT l = none := by
  unfold readT
  rw [linesO_cut h]
  cases linesO (l.drop (crAt l + 2)) with
  | none => rfl
  | some P => simp only [Option.map_some, Option.bind_some]; rw [readLs_bad h2]
theorem readT_take {l : List UInt8} (h : crAt l < l.length) (h2 : clAt (l.take (crAt l)) < (l.take (crAt l)).length) : readT l = (readT (l.drop (crAt l + 2))).map (lineOf (l.take (crAt l)) :: ·) := by
  unfold readT
  rw [linesO_cut h]
  cases linesO (l.drop (crAt l + 2)) with
  | none => rfl
  | some P => simp only [Option.map_some, Option.bind_some]; rw [readLs_take h2]
def readHC (s : ByteArray) : Int := if 6000 < s.size then 2 else match readT s.data.toList with
  | none => 5
  | some L => headsC L
def readHL (s : ByteArray) : List Hdr := if 6000 < s.size then [] else match readT s.data.toList with
  | none => []
  | some L => if headsC L = 0 then L else []
theorem readH_long {s : ByteArray} (h : 6000 < s.size) : readHC s = 2 ∧ readHL s = [] := by unfold readHC readHL; rw [if_pos h, if_pos h]; exact ⟨rfl, rfl⟩
theorem readH_bad {s : ByteArray} (h : ¬ 6000 < s.size) (hr : readT s.data.toList = none) : readHC s = 5 ∧ readHL s = [] := by unfold readHC readHL; rw [if_neg h, if_neg h, hr]; exact ⟨rfl, rfl⟩
theorem readH_fault {s : ByteArray} {L : List Hdr} (h : ¬ 6000 < s.size) (hr : readT s.data.toList = some L) (hL : headsC L ≠ 0) : readHC s = headsC L ∧ readHL s = [] := by
  unfold readHC readHL; rw [if_neg h, if_neg h, hr]; exact ⟨rfl, if_neg hL⟩
theorem readH_ok {s : ByteArray} {L : List Hdr} (h : ¬ 6000 < s.size) (hr : readT s.data.toList = some L) (hL : headsC L = 0) : readHC s = 0 ∧ readHL s = L := by
  unfold readHC readHL; rw [if_neg h, if_neg h, hr]; exact ⟨hL, if_pos hL⟩
theorem readHL_len (s : ByteArray) : (readHL s).length ≤ 20 := by
  unfold readHL
  by_cases h : 6000 < s.size
  · rw [if_pos h]; exact Nat.zero_le _
  · rw [if_neg h]
    split
    · exact Nat.zero_le _
    · split
      · rename_i hc; exact (headsC_zero hc).1
      · exact Nat.zero_le _
end Go.Proofs.YtmnblligifgcjaaGreatDoor
/-
  Contracts of Go library functions at this program: the tables by which the library of proofs knows its functions here (made by the kit tool lay-plain).
-/
namespace Go.Proofs
open Go.Shelf
def Tryz.lays156_ren : Go.Shelf.Ren := ⟨fun | 156 => 51 | 165 => 71 | 166 => 72 | 169 => 73 | 240 => 92 | 241 => 93 | 276 => 104 | 277 => 105 | n => n, fun | 31 => 25 | 9 => 9 | 3 => 3 | 4 => 4 | 0 => 0 | 20 => 20 | 72 => 106 | 76 => 110 | 70 => 104 | 37 => 22 | 75 => 109 | 127 => 100 | 164 => 137 | 5 => 5 | 80 => 112 | n => n, fun | n => n⟩
theorem Tryz.lays156 : Go.Proofs.Lays.n156 Tryz.prog Tryz.lays156_ren := {
  mixed := by kernel_rfl
  f156 := Tryz.func51.trans (congrArg some (by kernel_rfl))
  f165 := Tryz.func71.trans (congrArg some (by kernel_rfl))
  f166 := Tryz.func72.trans (congrArg some (by kernel_rfl))
  f169 := Tryz.func73.trans (congrArg some (by kernel_rfl))
  f240 := Tryz.func92.trans (congrArg some (by kernel_rfl))
  f241 := Tryz.func93.trans (congrArg some (by kernel_rfl))
  f276 := Tryz.func104.trans (congrArg some (by kernel_rfl))
  f277 := Tryz.func105.trans (congrArg some (by kernel_rfl))
  t0 := Tryz.underlying0
  a0 := Tryz.isAgg0
  z0 := Tryz.sizeOf0
  v0 := Tryz.zeroValue0
  t3 := Tryz.underlying3
  a3 := Tryz.isAgg3
  z3 := Tryz.sizeOf3
  v3 := Tryz.zeroValue3
  t4 := Tryz.underlying4
  a4 := Tryz.isAgg4
  z4 := Tryz.sizeOf4
  v4 := Tryz.zeroValue4
  t9 := Tryz.underlying9
  a9 := Tryz.isAgg9
  z9 := Tryz.sizeOf9
  v9 := Tryz.zeroValue9
  t20 := Tryz.underlying20
  a20 := Tryz.isAgg20
  z20 := Tryz.sizeOf20
  v20 := Tryz.zeroValue20
  t31 := Tryz.underlying25
  a31 := Tryz.isAgg25
  z31 := Tryz.sizeOf25
  v31 := Tryz.zeroValue25
  t37 := Tryz.underlying22
  a37 := Tryz.isAgg22
  z37 := Tryz.sizeOf22
  v37 := Tryz.zeroValue22
  t70 := Tryz.underlying104
  a70 := Tryz.isAgg104
  z70 := Tryz.sizeOf104
  v70 := Tryz.zeroValue104
  t72 := Tryz.underlying106
  a72 := Tryz.isAgg106
  z72 := Tryz.sizeOf106
  v72 := Tryz.zeroValue106
  t75 := Tryz.underlying109
  a75 := Tryz.isAgg109
  z75 := Tryz.sizeOf109
  v75 := Tryz.zeroValue109
  t76 := Tryz.underlying110
  a76 := Tryz.isAgg110
  z76 := Tryz.sizeOf110
  v76 := Tryz.zeroValue110
  t127 := Tryz.underlying100
  a127 := Tryz.isAgg100
  z127 := Tryz.sizeOf100
  v127 := Tryz.zeroValue100
  t164 := Tryz.underlying137
  a164 := Tryz.isAgg137
  z164 := Tryz.sizeOf137
  v164 := Tryz.zeroValue137 }
def Tryz.lays160_ren : Go.Shelf.Ren := ⟨fun | 160 => 70 | 232 => 86 | 231 => 85 | 227 => 87 | 234 => 89 | 233 => 88 | 236 => 91 | 235 => 90 | 228 => 100 | 271 => 103 | 151 => 102 | 197 => 101 | 120 => 113 | 152 => 112 | 260 => 111 | 137 => 117 | 119 => 118 | 224 => 119 | 225 => 120 | 217 => 123 | 266 => 125 | n => n, fun | 9 => 9 | 4 => 4 | 3 => 3 | 5 => 5 | 117 => 124 | 116 => 123 | 0 => 0 | 124 => 127 | 21 => 21 | 105 => 134 | 46 => 147 | 119 => 146 | 139 => 150 | 138 => 149 | n => n, fun | 3 => 2 | 4 => 3 | n => n⟩
theorem Tryz.lays160 : Go.Proofs.Lays.n160 Tryz.prog Tryz.lays160_ren := {
  mixed := by kernel_rfl
  f119 := Tryz.func118.trans (congrArg some (by kernel_rfl))
  f120 := Tryz.func113.trans (congrArg some (by kernel_rfl))
  f137 := Tryz.func117.trans (congrArg some (by kernel_rfl))
  f151 := Tryz.func102.trans (congrArg some (by kernel_rfl))
  f152 := Tryz.func112.trans (congrArg some (by kernel_rfl))
  f160 := Tryz.func70.trans (congrArg some (by kernel_rfl))
  f197 := Tryz.func101.trans (congrArg some (by kernel_rfl))
  f217 := Tryz.func123.trans (congrArg some (by kernel_rfl))
  f224 := Tryz.func119.trans (congrArg some (by kernel_rfl))
  f225 := Tryz.func120.trans (congrArg some (by kernel_rfl))
  f227 := Tryz.func87.trans (congrArg some (by kernel_rfl))
  f228 := Tryz.func100.trans (congrArg some (by kernel_rfl))
  f231 := Tryz.func85.trans (congrArg some (by kernel_rfl))
  f232 := Tryz.func86.trans (congrArg some (by kernel_rfl))
  f233 := Tryz.func88.trans (congrArg some (by kernel_rfl))
  f234 := Tryz.func89.trans (congrArg some (by kernel_rfl))
  f235 := Tryz.func90.trans (congrArg some (by kernel_rfl))
  f236 := Tryz.func91.trans (congrArg some (by kernel_rfl))
  f260 := Tryz.func111.trans (congrArg some (by kernel_rfl))
  f266 := Tryz.func125.trans (congrArg some (by kernel_rfl))
  f271 := Tryz.func103.trans (congrArg some (by kernel_rfl))
  t0 := Tryz.underlying0
  a0 := Tryz.isAgg0
  z0 := Tryz.sizeOf0
  v0 := Tryz.zeroValue0
  t3 := Tryz.underlying3
  a3 := Tryz.isAgg3
  z3 := Tryz.sizeOf3
  v3 := Tryz.zeroValue3
  t4 := Tryz.underlying4
  a4 := Tryz.isAgg4
  z4 := Tryz.sizeOf4
  v4 := Tryz.zeroValue4
  t5 := Tryz.underlying5
  a5 := Tryz.isAgg5
  z5 := Tryz.sizeOf5
  v5 := Tryz.zeroValue5
  t9 := Tryz.underlying9
  a9 := Tryz.isAgg9
  z9 := Tryz.sizeOf9
  v9 := Tryz.zeroValue9
  t21 := Tryz.underlying21
  a21 := Tryz.isAgg21
  z21 := Tryz.sizeOf21
  v21 := Tryz.zeroValue21
  t46 := Tryz.underlying147
  a46 := Tryz.isAgg147
  z46 := Tryz.sizeOf147
  v46 := Tryz.zeroValue147
  t105 := Tryz.underlying134
  a105 := Tryz.isAgg134
  z105 := Tryz.sizeOf134
  v105 := Tryz.zeroValue134
  t116 := Tryz.underlying123
  a116 := Tryz.isAgg123
  z116 := Tryz.sizeOf123
  t117 := Tryz.underlying124
  a117 := Tryz.isAgg124
  z117 := Tryz.sizeOf124
  v117 := Tryz.zeroValue124
  t119 := Tryz.underlying146
  a119 := Tryz.isAgg146
  z119 := Tryz.sizeOf146
  t124 := Tryz.underlying127
  a124 := Tryz.isAgg127
  z124 := Tryz.sizeOf127
  v124 := Tryz.zeroValue127
  t138 := Tryz.underlying149
  a138 := Tryz.isAgg149
  z138 := Tryz.sizeOf149
  v138 := Tryz.zeroValue149
  t139 := Tryz.underlying150
  a139 := Tryz.isAgg150
  z139 := Tryz.sizeOf150
  v139 := Tryz.zeroValue150
  g3 := by kernel_rfl
  g4 := by kernel_rfl }
def Tryz.laysM316_ren : Go.Shelf.Ren := ⟨fun | 316 => 48 | n => n, fun | 9 => 9 | 3 => 3 | 4 => 4 | 37 => 22 | 0 => 0 | 127 => 100 | 5 => 5 | n => n, fun | n => n⟩
theorem Tryz.laysM316 : Go.Proofs.LaysM.n316 Tryz.prog Tryz.laysM316_ren := {
  mixed := by kernel_rfl
  f316 := Tryz.func48.trans (congrArg some (by kernel_rfl))
  t0 := Tryz.underlying0
  a0 := Tryz.isAgg0
  z0 := Tryz.sizeOf0
  v0 := Tryz.zeroValue0
  t3 := Tryz.underlying3
  a3 := Tryz.isAgg3
  z3 := Tryz.sizeOf3
  v3 := Tryz.zeroValue3
  t4 := Tryz.underlying4
  a4 := Tryz.isAgg4
  z4 := Tryz.sizeOf4
  v4 := Tryz.zeroValue4
  t9 := Tryz.underlying9
  a9 := Tryz.isAgg9
  z9 := Tryz.sizeOf9
  v9 := Tryz.zeroValue9
  t37 := Tryz.underlying22
  a37 := Tryz.isAgg22
  z37 := Tryz.sizeOf22
  v37 := Tryz.zeroValue22
  t127 := Tryz.underlying100
  a127 := Tryz.isAgg100
  z127 := Tryz.sizeOf100
  v127 := Tryz.zeroValue100
  t5 := Tryz.underlying5
  a5 := Tryz.isAgg5
  z5 := Tryz.sizeOf5
  v5 := Tryz.zeroValue5
  i0 := by kernel_rfl
  i3 := by kernel_rfl
  i4 := by kernel_rfl
  i5 := by kernel_rfl
  i9 := by kernel_rfl
  i37 := by kernel_rfl
  i127 := by kernel_rfl }
def Tryz.laysM145_ren : Go.Shelf.Ren := ⟨fun | 145 => 107 | 220 => 114 | 219 => 121 | 217 => 123 | 225 => 120 | 224 => 119 | 267 => 124 | 266 => 125 | 314 => 126 | n => n, fun | 9 => 9 | 4 => 4 | 59 => 140 | 3 => 3 | 5 => 5 | 46 => 147 | 146 => 155 | 51 => 154 | n => n, fun | 1 => 1 | n => n⟩
theorem Tryz.laysM145 : Go.Proofs.LaysM.n145 Tryz.prog Tryz.laysM145_ren := {
  mixed := by kernel_rfl
  f145 := Tryz.func107.trans (congrArg some (by kernel_rfl))
  f217 := Tryz.func123.trans (congrArg some (by kernel_rfl))
  f219 := Tryz.func121.trans (congrArg some (by kernel_rfl))
  f220 := Tryz.func114.trans (congrArg some (by kernel_rfl))
  f224 := Tryz.func119.trans (congrArg some (by kernel_rfl))
  f225 := Tryz.func120.trans (congrArg some (by kernel_rfl))
  f266 := Tryz.func125.trans (congrArg some (by kernel_rfl))
  f267 := Tryz.func124.trans (congrArg some (by kernel_rfl))
  f314 := Tryz.func126.trans (congrArg some (by kernel_rfl))
  t3 := Tryz.underlying3
  a3 := Tryz.isAgg3
  z3 := Tryz.sizeOf3
  v3 := Tryz.zeroValue3
  t4 := Tryz.underlying4
  a4 := Tryz.isAgg4
  z4 := Tryz.sizeOf4
  v4 := Tryz.zeroValue4
  t5 := Tryz.underlying5
  a5 := Tryz.isAgg5
  z5 := Tryz.sizeOf5
  v5 := Tryz.zeroValue5
  t9 := Tryz.underlying9
  a9 := Tryz.isAgg9
  z9 := Tryz.sizeOf9
  v9 := Tryz.zeroValue9
  t46 := Tryz.underlying147
  a46 := Tryz.isAgg147
  z46 := Tryz.sizeOf147
  v46 := Tryz.zeroValue147
  t51 := Tryz.underlying154
  a51 := Tryz.isAgg154
  z51 := Tryz.sizeOf154
  v51 := Tryz.zeroValue154
  t59 := Tryz.underlying140
  a59 := Tryz.isAgg140
  z59 := Tryz.sizeOf140
  v59 := Tryz.zeroValue140
  t146 := Tryz.underlying155
  a146 := Tryz.isAgg155
  z146 := Tryz.sizeOf155
  v146 := Tryz.zeroValue155
  g1 := by kernel_rfl
  i3 := by kernel_rfl
  i4 := by kernel_rfl
  i5 := by kernel_rfl
  i9 := by kernel_rfl
  i46 := by kernel_rfl
  i51 := by kernel_rfl
  i59 := by kernel_rfl
  i146 := by kernel_rfl
  m1 := by kernel_rfl
  s1_3 := fun w h => Go.Proofs.cell_of_shapedOpen_int (zero := #[.int .i64 0]) (t := 3) h (of_decide_eq_true (by kernel_rfl)) (by kernel_rfl) rfl (by kernel_rfl) (by kernel_rfl) Tryz.underlying3 }
def Tryz.lays229_ren : Go.Shelf.Ren := ⟨fun | 229 => 49 | n => n, fun | 9 => 9 | 40 => 86 | 31 => 25 | 152 => 101 | 3 => 3 | 0 => 0 | 4 => 4 | 21 => 21 | 154 => 103 | n => n, fun | n => n⟩
theorem Tryz.lays229 : Go.Proofs.Lays.n229 Tryz.prog Tryz.lays229_ren := {
  mixed := by kernel_rfl
  f229 := Tryz.func49.trans (congrArg some (by kernel_rfl))
  t0 := Tryz.underlying0
  a0 := Tryz.isAgg0
  z0 := Tryz.sizeOf0
  v0 := Tryz.zeroValue0
  t3 := Tryz.underlying3
  a3 := Tryz.isAgg3
  z3 := Tryz.sizeOf3
  v3 := Tryz.zeroValue3
  t4 := Tryz.underlying4
  a4 := Tryz.isAgg4
  z4 := Tryz.sizeOf4
  v4 := Tryz.zeroValue4
  t9 := Tryz.underlying9
  a9 := Tryz.isAgg9
  z9 := Tryz.sizeOf9
  v9 := Tryz.zeroValue9
  t21 := Tryz.underlying21
  a21 := Tryz.isAgg21
  z21 := Tryz.sizeOf21
  v21 := Tryz.zeroValue21
  t31 := Tryz.underlying25
  a31 := Tryz.isAgg25
  z31 := Tryz.sizeOf25
  v31 := Tryz.zeroValue25
  t40 := Tryz.underlying86
  a40 := Tryz.isAgg86
  z40 := Tryz.sizeOf86
  v40 := Tryz.zeroValue86
  t152 := Tryz.underlying101
  a152 := Tryz.isAgg101
  z152 := Tryz.sizeOf101
  v152 := Tryz.zeroValue101
  t154 := Tryz.underlying103
  a154 := Tryz.isAgg103
  z154 := Tryz.sizeOf103
  v154 := Tryz.zeroValue103 }
def Tryz.lays99_ren : Go.Shelf.Ren := ⟨fun | 99 => 115 | 206 => 122 | n => n, fun | 9 => 9 | 4 => 4 | 3 => 3 | n => n, fun | n => n⟩
theorem Tryz.lays99 : Go.Proofs.Lays.n99 Tryz.prog Tryz.lays99_ren := {
  mixed := by kernel_rfl
  f99 := Tryz.func115.trans (congrArg some (by kernel_rfl))
  f206 := Tryz.func122.trans (congrArg some (by kernel_rfl))
  t3 := Tryz.underlying3
  a3 := Tryz.isAgg3
  z3 := Tryz.sizeOf3
  v3 := Tryz.zeroValue3
  t4 := Tryz.underlying4
  a4 := Tryz.isAgg4
  z4 := Tryz.sizeOf4
  v4 := Tryz.zeroValue4
  t9 := Tryz.underlying9
  a9 := Tryz.isAgg9
  z9 := Tryz.sizeOf9
  v9 := Tryz.zeroValue9 }
def Tryz.lays219_ren : Go.Shelf.Ren := ⟨fun | 219 => 121 | 217 => 123 | 225 => 120 | 224 => 119 | 267 => 124 | 266 => 125 | 314 => 126 | n => n, fun | 9 => 9 | 3 => 3 | 4 => 4 | 5 => 5 | 46 => 147 | 146 => 155 | 51 => 154 | n => n, fun | 1 => 1 | n => n⟩
theorem Tryz.lays219 : Go.Proofs.Lays.n219 Tryz.prog Tryz.lays219_ren := {
  mixed := by kernel_rfl
  f217 := Tryz.func123.trans (congrArg some (by kernel_rfl))
  f219 := Tryz.func121.trans (congrArg some (by kernel_rfl))
  f224 := Tryz.func119.trans (congrArg some (by kernel_rfl))
  f225 := Tryz.func120.trans (congrArg some (by kernel_rfl))
  f266 := Tryz.func125.trans (congrArg some (by kernel_rfl))
  f267 := Tryz.func124.trans (congrArg some (by kernel_rfl))
  f314 := Tryz.func126.trans (congrArg some (by kernel_rfl))
  t3 := Tryz.underlying3
  a3 := Tryz.isAgg3
  z3 := Tryz.sizeOf3
  v3 := Tryz.zeroValue3
  t4 := Tryz.underlying4
  a4 := Tryz.isAgg4
  z4 := Tryz.sizeOf4
  v4 := Tryz.zeroValue4
  t5 := Tryz.underlying5
  a5 := Tryz.isAgg5
  z5 := Tryz.sizeOf5
  v5 := Tryz.zeroValue5
  t9 := Tryz.underlying9
  a9 := Tryz.isAgg9
  z9 := Tryz.sizeOf9
  v9 := Tryz.zeroValue9
  t46 := Tryz.underlying147
  a46 := Tryz.isAgg147
  z46 := Tryz.sizeOf147
  v46 := Tryz.zeroValue147
  t51 := Tryz.underlying154
  a51 := Tryz.isAgg154
  z51 := Tryz.sizeOf154
  v51 := Tryz.zeroValue154
  t146 := Tryz.underlying155
  a146 := Tryz.isAgg155
  z146 := Tryz.sizeOf155
  v146 := Tryz.zeroValue155
  g1 := by kernel_rfl }
end Go.Proofs
/-
  A slice of texts that the call itself grows; joined and copied.
-/
namespace Go.Proofs.YtmnblligifgcjaaGreatDoor
open Go.ChangeShapes Go.WideShapes Go.ChangeAt Go.RowKit
theorem infoStr : (Tryz.prog.info? 9).map (fun i => (i.zero, i.size, i.bytes)) = some (some (.string ⟨#[]⟩), 1, 16) := by kernel_rfl
def textsW (l : List ByteArray) : List Value := l.map Value.string
/-- v, nil or not, holds the texts l in a row of the call's own. -/
def OwnS (w : World) (base : Nat) (v : Value) (l : List ByteArray) : Prop := w.ownsRow base 9 1 v l.length (textsW l)
theorem OwnS.nil (w : World) (base : Nat) : OwnS w base (.slice none 0 0) [] := World.ownsRow_nil _ _ _ _
theorem OwnS.below {w w' : World} {base : Nat} {v : Value} {l : List ByteArray} (h : OwnS w base v l) (hb : Below w.heap.size w w') : OwnS w' base v l := by
  obtain ⟨h1, h2⟩ := h
  refine ⟨h1, ?_⟩
  rcases h2 with h2 | ⟨g, c, cur, e, hg, hh, hrest⟩
  · exact .inl h2
  · exact .inr ⟨g, c, cur, e, hg, by rw [hb.block g (Array.getElem?_eq_some_iff.1 hh).1]; exact hh, hrest⟩
theorem OwnS.lower {w : World} {b0 base : Nat} {v : Value} {l : List ByteArray} (h : OwnS w base v l) (hb : b0 ≤ base) : OwnS w b0 v l := by
  obtain ⟨h1, h2⟩ := h
  refine ⟨h1, ?_⟩
  rcases h2 with h2 | ⟨g, c, cur, e, hg, hrest⟩
  · exact .inl h2
  · exact .inr ⟨g, c, cur, e, by omega, hrest⟩
theorem own_geS {w : World} {base : Nat} {e : TypeId} {size : Nat} {v : Value} {n : Nat} {xs : List Value} (h : w.ownsRow base e size v n xs) (q : Nat) (hq : v.ownBlock = some q) : base ≤ q := by
  obtain ⟨_, h | ⟨g, c, cur, rfl, hg, _⟩⟩ := h
  · rw [h.1] at hq; cases hq
  · simp only [Value.ownBlock, Option.some.injEq] at hq; omega
theorem wpList_append_str {ops : Array Oper} {rest : List Oper} {o : Oper} {a : Act} {Q : Exit → Act → World → Prop} (w : World) (hgd : o.guard = none) (s x : Operand)
    (ho : o.op = .call { callee := .builtin .append, args := #[s, x], argTypes := #[25, 25] }) (base : Nat) (v : Value) (l : List ByteArray) (z : ByteArray)
    (hs : a.eval s = v) (hx : a.eval x = .slice (some ⟨w.heap.size, 0, none⟩) 1 1) (hown : OwnS w base v l) (hl : l.length ≤ 1000000) (hbase : base ≤ w.heap.size)
    (h : ∀ v' w', OwnS w' base v' (l ++ [z]) → Below base w w' → w.heap.size ≤ w'.heap.size → wpList Tryz.prog ops Q rest (a.put o.dst v') w') :
    wpList Tryz.prog ops Q (o :: rest) a (w.alloc (.cells #[.string z] 9)) := by
  obtain ⟨i0, hi, hz0, hz1, hz2⟩ := info_parts infoStr
  refine wpList_append_own _ hgd s x 25 ho base 9 i0 (.string ⟨#[]⟩) 1 16 Tryz.underlying25 hi hz0 hz1 hz2 rfl (by decide) v l.length (textsW l) hs (World.ownsRow.alloc hown _) ⟨w.heap.size, 0, none⟩ 1 1 [.string z] hx rfl ?_ ?_ ?_ ?_ ?_ ?_
  · intro j u hj
    match j, hj with
    | 0, hj => simp at hj; subst hj; simp [Addr.add]
  · intro u hu; simp at hu; subst hu; rfl
  · unfold maxLen; omega
  · omega
  · simp; omega
  · intro v' w' h1 h2 h3
    have e : textsW (l ++ [z]) = textsW l ++ [Value.string z] := by simp [textsW]
    refine h v' w' (by unfold OwnS; rw [e, List.length_append]; exact h1) ?_ ?_
    · exact ((Below.refl base w).alloc hbase _).grown h2 (by simp; omega) (fun q hq => own_geS hown q hq)
    · have hb := ((Below.refl 0 w).alloc (Nat.zero_le _) (.cells #[.string z] 9)).grown h2 (Nat.zero_le _) (fun q _ => Nat.zero_le _)
      exact hb.size
theorem joinExtra : Builder.Extra Tryz.prog Tryz.lays156_ren where
  sizeBuilder := by kernel_rfl
  liesBuilder := by kernel_rfl
  t5 := Tryz.underlying5
  a5 := Tryz.isAgg5
  z5 := Tryz.sizeOf5
  v5 := Tryz.zeroValue5
  infoByte := by kernel_rfl
  cellsByte := by kernel_rfl
  sizeByte := by kernel_rfl
  neB5 := by decide
/-- strings.Join over the call's own texts. -/
theorem join_own (w : World) (base : Nat) (v : Value) (xs : List ByteArray) (h : OwnS w base v xs) (hN : xs.length ≤ 1000000) (hlen : (Lib.join (xs.map (·.data.toList)) [44, 32]).length ≤ 1000000) :
    Calls Tryz.prog 51 #[v, .string ⟨#[44, 32]⟩] w fun e w' => e = .returned (.string ⟨(Lib.join (xs.map (·.data.toList)) [44, 32]).toArray⟩) ∧ Below w.heap.size w w' := by
  have h0 := h
  obtain ⟨_, h1 | ⟨g, c, cur, rfl, _, hh, hcap, _⟩⟩ := h
  · have : xs = [] := List.eq_nil_of_length_eq_zero h1.2
    subst this
    rw [h1.1]
    exact (Any.strings_Join_none Tryz.lays156 joinExtra none 0 ⟨#[44, 32]⟩ w).mono fun e w' ⟨he, hw⟩ => ⟨he, hw ▸ Below.refl _ _⟩
  · refine Any.strings_Join Tryz.lays156 joinExtra g 0 c xs ⟨#[44, 32]⟩ w ?_ (Array.getElem?_eq_some_iff.1 hh).1 (by omega) hcap (by simpa using (by omega : (Lib.join (xs.map (·.data.toList)) [44, 32]).length ≤ 140737488355328))
    intro j x hj
    have hj2 := (List.getElem?_eq_some_iff.1 hj).1
    have := World.ownsRow.cellAt h0 j (by omega)
    rw [show 0 + j = j from by omega]
    rw [this]
    simp [textsW, hj]
theorem clone_lib2 (s : ByteArray) (w : World) (hs : s.size ≤ 1048576) :
    Calls Tryz.prog 48 #[.string s] w fun e w' => e = .returned (.string s) ∧ Below w.heap.size w w' :=
  Any.stringslite_Clone Tryz.laysM316 s w (by omega)
set_option maxHeartbeats 400000 in
theorem clone_text (s : ByteArray) (w : World) (hs : s.size ≤ 1048576) :
    Calls Tryz.prog 23 #[.string s] w fun e w' => e = .returned (.string s) ∧ Below w.heap.size w w' := by
  go_enter Tryz.func23, Tryz.ntmps23
  go_wp2_with fail
  refine (clone_lib2 s _ hs).mono ?_
  rintro e w1 ⟨rfl, hb⟩
  go_wp2
  go_ret
  exact ⟨rfl, hb⟩
end Go.Proofs.YtmnblligifgcjaaGreatDoor
/-
  The laws' copy of a list of items, and their comparing of two.
-/
namespace Go.Proofs.YtmnblligifgcjaaGreatDoor
open Go.ChangeShapes Go.WideShapes Go.ChangeAt Go.RowKit Go.Sort
/-- m cells from the head of block G on are there and may be written. -/
def HRoom (w : World) (G m : Nat) : Prop := ∀ j, j < m → (∃ u, w.cell? ⟨G, j, none⟩ = some u) ∧ w.frozen? ⟨G, j, none⟩ = false
theorem HRoom.keep {w w' : World} {G m : Nat} (h : HRoom w G m) (hb : Below w.heap.size w w') : HRoom w' G m := by
  intro j hj
  obtain ⟨⟨u, hu⟩, hf⟩ := h j hj
  exact ⟨⟨u, by rw [hb.cell (block_lt_of_cell hu)]; exact hu⟩, by rw [hb.frozen (block_lt_of_cell hu)]; exact hf⟩
theorem HRoom.set {w : World} {G m : Nat} (h : HRoom w G m) (a : Addr) (v : Value) : HRoom (w.setCell a v) G m := by
  intro j hj
  obtain ⟨⟨u, hu⟩, hf⟩ := h j hj
  refine ⟨?_, by rw [World.frozen?_setCell]; exact hf⟩
  by_cases e : a = ⟨G, j, none⟩
  · exact ⟨v, by subst e; exact World.cell?_setCell_same _ _ _ hu⟩
  · exact ⟨u, by rw [World.cell?_setCell_other _ _ _ _ e]; exact hu⟩
def put2 (w : World) (G k : Nat) (r : Hdr) : World := (w.setCell ⟨G, k * 2, none⟩ (.string r.name)).setCell ⟨G, k * 2 + 1, none⟩ (.string r.value)
theorem hoff_ne {G i j : Nat} (h : i ≠ j) : (⟨G, i, none⟩ : Addr) ≠ ⟨G, j, none⟩ := fun e => h (congrArg Addr.off e)
theorem put2_other (w : World) (G k : Nat) (r : Hdr) (j : Nat) (h0 : k * 2 ≠ j) (h1 : k * 2 + 1 ≠ j) : (put2 w G k r).cell? ⟨G, j, none⟩ = w.cell? ⟨G, j, none⟩ := by
  unfold put2
  rw [World.cell?_setCell_other _ _ _ _ (hoff_ne h1), World.cell?_setCell_other _ _ _ _ (hoff_ne h0)]
theorem HRoom.put {w : World} {G m : Nat} (h : HRoom w G m) (k : Nat) (r : Hdr) : HRoom (put2 w G k r) G m := (h.set _ _).set _ _
theorem HeadsAt.put {w : World} {G n : Nat} {l : List Hdr} {k : Nat} {r : Hdr} (h : HeadsAt w G 0 (l.take k)) (hr : l[k]? = some r) (hm : HRoom w G (n * 2)) (hk : k < n) : HeadsAt (put2 w G k r) G 0 (l.take (k + 1)) := by
  intro i q hq
  have hi : i < k + 1 := by
    have := (List.getElem?_eq_some_iff.1 hq).1
    simp at this; omega
  rw [List.getElem?_take_of_lt hi] at hq
  simp only [Nat.zero_add]
  by_cases e : i = k
  · subst e
    rw [hr] at hq
    obtain rfl := Option.some.inj hq
    obtain ⟨⟨u0, g0⟩, _⟩ := hm (i * 2) (by omega)
    obtain ⟨⟨u1, g1⟩, _⟩ := (hm.set ⟨G, i * 2, none⟩ (.string r.name)) (i * 2 + 1) (by omega)
    unfold put2
    refine ⟨?_, World.cell?_setCell_same _ _ _ g1⟩
    rw [World.cell?_setCell_other _ _ _ _ (hoff_ne (by omega))]
    exact World.cell?_setCell_same _ _ _ g0
  · have hq2 : (l.take k)[i]? = some q := by rw [List.getElem?_take_of_lt (by omega)]; exact hq
    obtain ⟨a1, a3⟩ := h i q hq2
    simp only [Nat.zero_add] at a1 a3
    exact ⟨by rw [put2_other _ _ _ _ _ (by omega) (by omega)]; exact a1, by rw [put2_other _ _ _ _ _ (by omega) (by omega)]; exact a3⟩
theorem infoHeader : (Tryz.prog.info? 51).map (fun i => (i.zero, i.size, i.bytes)) = some (some (.agg #[.string ⟨#[]⟩, .string ⟨#[]⟩]), 2, 32) := by kernel_rfl
end Go.Proofs.YtmnblligifgcjaaGreatDoor
/-
  What the laws over lists of items share.
-/
namespace Go.Proofs.YtmnblligifgcjaaGreatDoor
open Go.ChangeShapes Go.WideShapes Go.ChangeAt Go.RowKit
/-- The slice at a holds the items l. -/
def HdsIn (w : World) (a : Option Addr) (l : List Hdr) : Prop := l = [] ∨ ∃ b off, a = some ⟨b, off, none⟩ ∧ HeadsAt w b off l
theorem HdsIn.keep {w w' : World} {a : Option Addr} {l : List Hdr} (h : HdsIn w a l) (hb : Below w.heap.size w w') : HdsIn w' a l := by
  rcases h with h | ⟨b, off, e, hat⟩
  · exact .inl h
  · exact .inr ⟨b, off, e, hat.keep hb⟩
theorem szH_room {left : Int} {r : Hdr} (h : ¬ szH left r < 0) : (r.name.size : Int) ≤ left ∧ (r.value.size : Int) ≤ left ∧ szH left r ≤ left := by
  by_cases c1 : left - (r.name.size : Int) < 0
  · rw [show szH left r = -1 from by simp [szH, c1]] at h; omega
  · by_cases c2 : left - (r.name.size : Int) - (r.value.size : Int) < 0
    · rw [show szH left r = -1 from by simp [szH, c1, c2]] at h; omega
    · have e : szH left r = left - (r.name.size : Int) - (r.value.size : Int) := by simp [szH, c1, c2]
      rw [e]
      omega
theorem szHs_room (l : List Hdr) : ∀ left : Int, ¬ szHs left l < 0 → left ≤ 1048576 → ∀ (i : Nat) r, l[i]? = some r → r.name.size ≤ 1048576 ∧ r.value.size ≤ 1048576 := by
  induction l with
  | nil => intro left _ _ i r hr; simp at hr
  | cons x l ih =>
    intro left h hl i r hr
    rw [szHs] at h
    by_cases c : szH left x < 0
    · rw [if_pos c] at h; omega
    · rw [if_neg c] at h
      obtain ⟨z1, z2, z3⟩ := szH_room c
      cases i with
      | zero => simp at hr; subst hr; omega
      | succ i => exact ih _ h (by omega) i r (by simpa using hr)
theorem szHL_room {l : List Hdr} {left : Int} (hl : left ≤ 1048576) (h : ¬ szHL left l < 0) : (l.length : Int) ≤ 1048576 ∧ ∀ (i : Nat) r, l[i]? = some r → r.name.size ≤ 1048576 ∧ r.value.size ≤ 1048576 := by
  unfold szHL at h
  by_cases c : left - (l.length : Int) < 0
  · rw [if_pos c] at h; omega
  · rw [if_neg c] at h
    exact ⟨by omega, szHs_room l _ h (by omega)⟩
theorem szHs_le (l : List Hdr) : ∀ left : Int, szHs left l ≤ left ∨ szHs left l < 0 := by
  induction l with
  | nil => intro left; exact .inl (Int.le_refl _)
  | cons x l ih =>
    intro left
    rw [szHs]
    by_cases c : szH left x < 0
    · rw [if_pos c]; right; decide
    · rw [if_neg c]
      have := (szH_room c).2.2
      rcases ih (szH left x) with h | h
      · left; omega
      · right; exact h
theorem szHL_le {l : List Hdr} {left : Int} (h : ¬ szHL left l < 0) : szHL left l ≤ left := by
  unfold szHL at h ⊢
  by_cases c : left - (l.length : Int) < 0
  · rw [if_pos c] at h; omega
  · rw [if_neg c] at h ⊢
    rcases szHs_le l (left - (l.length : Int)) with x | x <;> omega
end Go.Proofs.YtmnblligifgcjaaGreatDoor
/-
  What the model's l1WordByte answers at any byte.
-/
namespace Go.Proofs.YtmnblligifgcjaaGreatDoor
open Go.ChangeShapes Go.WideShapes Go.ChangeAt Go.RowKit
set_option maxHeartbeats 400000 in
theorem wordByte_33 (w : World) :
    Calls Tryz.prog 78 #[.int .u8 33] w fun e w' => e = .returned (.bool (wordI 33)) ∧ w' = w := by
  have W : wordI 33 = true := by decide +kernel
  rw [W]
  clear W
  go_enter Tryz.func78, Tryz.ntmps78
  go_wp2
  go_ret
  exact ⟨rfl, rfl⟩
set_option maxHeartbeats 400000 in
theorem wordByte_35 (w : World) :
    Calls Tryz.prog 78 #[.int .u8 35] w fun e w' => e = .returned (.bool (wordI 35)) ∧ w' = w := by
  have W : wordI 35 = true := by decide +kernel
  rw [W]
  clear W
  go_enter Tryz.func78, Tryz.ntmps78
  go_wp2
  go_ret
  exact ⟨rfl, rfl⟩
set_option maxHeartbeats 400000 in
theorem wordByte_36 (w : World) :
    Calls Tryz.prog 78 #[.int .u8 36] w fun e w' => e = .returned (.bool (wordI 36)) ∧ w' = w := by
  have W : wordI 36 = true := by decide +kernel
  rw [W]
  clear W
  go_enter Tryz.func78, Tryz.ntmps78
  go_wp2
  go_ret
  exact ⟨rfl, rfl⟩
set_option maxHeartbeats 400000 in
theorem wordByte_37 (w : World) :
    Calls Tryz.prog 78 #[.int .u8 37] w fun e w' => e = .returned (.bool (wordI 37)) ∧ w' = w := by
  have W : wordI 37 = true := by decide +kernel
  rw [W]
  clear W
  go_enter Tryz.func78, Tryz.ntmps78
  go_wp2
  go_ret
  exact ⟨rfl, rfl⟩
set_option maxHeartbeats 400000 in
theorem wordByte_38 (w : World) :
    Calls Tryz.prog 78 #[.int .u8 38] w fun e w' => e = .returned (.bool (wordI 38)) ∧ w' = w := by
  have W : wordI 38 = true := by decide +kernel
  rw [W]
  clear W
  go_enter Tryz.func78, Tryz.ntmps78
  go_wp2
  go_ret
  exact ⟨rfl, rfl⟩
set_option maxHeartbeats 400000 in
theorem wordByte_39 (w : World) :
    Calls Tryz.prog 78 #[.int .u8 39] w fun e w' => e = .returned (.bool (wordI 39)) ∧ w' = w := by
  have W : wordI 39 = true := by decide +kernel
  rw [W]
  clear W
  go_enter Tryz.func78, Tryz.ntmps78
  go_wp2
  go_ret
  exact ⟨rfl, rfl⟩
set_option maxHeartbeats 400000 in
theorem wordByte_42 (w : World) :
    Calls Tryz.prog 78 #[.int .u8 42] w fun e w' => e = .returned (.bool (wordI 42)) ∧ w' = w := by
  have W : wordI 42 = true := by decide +kernel
  rw [W]
  clear W
  go_enter Tryz.func78, Tryz.ntmps78
  go_wp2
  go_ret
  exact ⟨rfl, rfl⟩
set_option maxHeartbeats 400000 in
theorem wordByte_43 (w : World) :
    Calls Tryz.prog 78 #[.int .u8 43] w fun e w' => e = .returned (.bool (wordI 43)) ∧ w' = w := by
  have W : wordI 43 = true := by decide +kernel
  rw [W]
  clear W
  go_enter Tryz.func78, Tryz.ntmps78
  go_wp2
  go_ret
  exact ⟨rfl, rfl⟩
set_option maxHeartbeats 400000 in
theorem wordByte_45 (w : World) :
    Calls Tryz.prog 78 #[.int .u8 45] w fun e w' => e = .returned (.bool (wordI 45)) ∧ w' = w := by
  have W : wordI 45 = true := by decide +kernel
  rw [W]
  clear W
  go_enter Tryz.func78, Tryz.ntmps78
  go_wp2
  go_ret
  exact ⟨rfl, rfl⟩
set_option maxHeartbeats 400000 in
theorem wordByte_46 (w : World) :
    Calls Tryz.prog 78 #[.int .u8 46] w fun e w' => e = .returned (.bool (wordI 46)) ∧ w' = w := by
  have W : wordI 46 = true := by decide +kernel
  rw [W]
  clear W
  go_enter Tryz.func78, Tryz.ntmps78
  go_wp2
  go_ret
  exact ⟨rfl, rfl⟩
set_option maxHeartbeats 400000 in
theorem wordByte_94 (w : World) :
    Calls Tryz.prog 78 #[.int .u8 94] w fun e w' => e = .returned (.bool (wordI 94)) ∧ w' = w := by
  have W : wordI 94 = true := by decide +kernel
  rw [W]
  clear W
  go_enter Tryz.func78, Tryz.ntmps78
  go_wp2
  go_ret
  exact ⟨rfl, rfl⟩
set_option maxHeartbeats 400000 in
theorem wordByte_95 (w : World) :
    Calls Tryz.prog 78 #[.int .u8 95] w fun e w' => e = .returned (.bool (wordI 95)) ∧ w' = w := by
  have W : wordI 95 = true := by decide +kernel
  rw [W]
  clear W
  go_enter Tryz.func78, Tryz.ntmps78
  go_wp2
  go_ret
  exact ⟨rfl, rfl⟩
set_option maxHeartbeats 400000 in
theorem wordByte_124 (w : World) :
    Calls Tryz.prog 78 #[.int .u8 124] w fun e w' => e = .returned (.bool (wordI 124)) ∧ w' = w := by
  have W : wordI 124 = true := by decide +kernel
  rw [W]
  clear W
  go_enter Tryz.func78, Tryz.ntmps78
  go_wp2
  go_ret
  exact ⟨rfl, rfl⟩
set_option maxHeartbeats 400000 in
theorem wordByte_126 (w : World) :
    Calls Tryz.prog 78 #[.int .u8 126] w fun e w' => e = .returned (.bool (wordI 126)) ∧ w' = w := by
  have W : wordI 126 = true := by decide +kernel
  rw [W]
  clear W
  go_enter Tryz.func78, Tryz.ntmps78
  go_wp2
  go_ret
  exact ⟨rfl, rfl⟩
set_option maxHeartbeats 1000000 in
theorem wordByte_else (c : Int) (w : World) (h0 : 0 ≤ c) (h1 : c < 256) (hs : signI c.toNat = false) :
    Calls Tryz.prog 78 #[.int .u8 c] w fun e w' => e = .returned (.bool (wordI c)) ∧ w' = w := by
  have HE : Hid (wordI c = ((decide (97 ≤ c) && decide (c ≤ 122)) || (decide (65 ≤ c) && decide (c ≤ 90)) || (decide (48 ≤ c) && decide (c ≤ 57)))) := by
    show _ = _
    rw [wordI_eq c h0 h1, hs, Bool.false_or]
  obtain ⟨n, rfl⟩ := Int.eq_ofNat_of_zero_le h0
  simp only [Int.toNat_natCast, signI, List.contains_eq_mem, List.mem_cons, List.not_mem_nil, or_false, decide_eq_false_iff_not, not_or] at hs
  obtain ⟨s0, s1, s2, s3, s4, s5, s6, s7, s8, s9, s10, s11, s12, s13⟩ := hs
  have t0 : ((n : Int) == 33) = false := by simp; omega
  have t1 : ((n : Int) == 35) = false := by simp; omega
  have t2 : ((n : Int) == 36) = false := by simp; omega
  have t3 : ((n : Int) == 37) = false := by simp; omega
  have t4 : ((n : Int) == 38) = false := by simp; omega
  have t5 : ((n : Int) == 39) = false := by simp; omega
  have t6 : ((n : Int) == 42) = false := by simp; omega
  have t7 : ((n : Int) == 43) = false := by simp; omega
  have t8 : ((n : Int) == 45) = false := by simp; omega
  have t9 : ((n : Int) == 46) = false := by simp; omega
  have t10 : ((n : Int) == 94) = false := by simp; omega
  have t11 : ((n : Int) == 95) = false := by simp; omega
  have t12 : ((n : Int) == 124) = false := by simp; omega
  have t13 : ((n : Int) == 126) = false := by simp; omega
  clear s0 s1 s2 s3 s4 s5 s6 s7 s8 s9 s10 s11 s12 s13
  generalize (n : Int) = c at *
  clear n
  have key : ∀ b : Bool, wordI c = b → Ending.returned (.bool b) = .returned (.bool (wordI c)) := fun b h => by rw [h]
  have KEY : Hid (∀ b : Bool, wordI c = b → Ending.returned (.bool b) = .returned (.bool (wordI c))) := key
  clear key
  by_cases c1 : c < 48
  · have W : Hid (wordI c = false) := by
      show _ = _
      rw [HE.out]; simp; omega
    go_enter Tryz.func78, Tryz.ntmps78
    go_wp2
    go_ret
    exact ⟨KEY.out _ W.out, rfl⟩
  by_cases c2 : c ≤ 57
  · have W : Hid (wordI c = true) := by
      show _ = _
      rw [HE.out]; simp; omega
    have d1 : decide (c ≤ 57) = true := by simpa using c2
    go_enter Tryz.func78, Tryz.ntmps78
    go_wp2
    go_ret
    exact ⟨KEY.out _ W.out, rfl⟩
  have d2 : decide (c ≤ 57) = false := by simpa using c2
  by_cases c3 : c < 65
  · have W : Hid (wordI c = false) := by
      show _ = _
      rw [HE.out]; simp; omega
    go_enter Tryz.func78, Tryz.ntmps78
    go_wp2
    go_ret
    exact ⟨KEY.out _ W.out, rfl⟩
  by_cases c4 : c ≤ 90
  · have W : Hid (wordI c = true) := by
      show _ = _
      rw [HE.out]; simp; omega
    have d1 : decide (c ≤ 90) = true := by simpa using c4
    go_enter Tryz.func78, Tryz.ntmps78
    go_wp2
    go_ret
    exact ⟨KEY.out _ W.out, rfl⟩
  have d4 : decide (c ≤ 90) = false := by simpa using c4
  by_cases c5 : c < 97
  · have W : Hid (wordI c = false) := by
      show _ = _
      rw [HE.out]; simp; omega
    go_enter Tryz.func78, Tryz.ntmps78
    go_wp2
    go_ret
    exact ⟨KEY.out _ W.out, rfl⟩
  by_cases c6 : c ≤ 122
  · have W : Hid (wordI c = true) := by
      show _ = _
      rw [HE.out]; simp; omega
    have d1 : decide (c ≤ 122) = true := by simpa using c6
    go_enter Tryz.func78, Tryz.ntmps78
    go_wp2
    go_ret
    exact ⟨KEY.out _ W.out, rfl⟩
  have d6 : decide (c ≤ 122) = false := by simpa using c6
  have W : Hid (wordI c = false) := by
    show _ = _
    rw [HE.out]; simp; omega
  go_enter Tryz.func78, Tryz.ntmps78
  go_wp2
  go_ret
  exact ⟨KEY.out _ W.out, rfl⟩
theorem wordByte_any (c : Int) (w : World) (h0 : 0 ≤ c) (h1 : c < 256) :
    Calls Tryz.prog 78 #[.int .u8 c] w fun e w' => e = .returned (.bool (wordI c)) ∧ w' = w := by
  cases h : signI c.toNat
  · exact wordByte_else c w h0 h1 h
  · obtain ⟨n, rfl⟩ := Int.eq_ofNat_of_zero_le h0
    simp only [Int.toNat_natCast, signI, List.contains_eq_mem, List.mem_cons, List.not_mem_nil, or_false, decide_eq_true_eq] at h
    rcases h with rfl | rfl | rfl | rfl | rfl | rfl | rfl | rfl | rfl | rfl | rfl | rfl | rfl | rfl
    · exact wordByte_33 w
    · exact wordByte_35 w
    · exact wordByte_36 w
    · exact wordByte_37 w
    · exact wordByte_38 w
    · exact wordByte_39 w
    · exact wordByte_42 w
    · exact wordByte_43 w
    · exact wordByte_45 w
    · exact wordByte_46 w
    · exact wordByte_94 w
    · exact wordByte_95 w
    · exact wordByte_124 w
    · exact wordByte_126 w
end Go.Proofs.YtmnblligifgcjaaGreatDoor
/-
  What the model's IsWord answers, and hasOnly over the table.
-/
namespace Go.Proofs.YtmnblligifgcjaaGreatDoor
open Go.ChangeShapes Go.WideShapes Go.ChangeAt Go.RowKit
set_option maxHeartbeats 400000 in
theorem specIsWord_size (s : ByteArray) (w : World) (h : s.size < 1 ∨ 64 < s.size) :
    Calls Tryz.prog 55 #[.string s] w fun e w' => e = .returned (.bool false) ∧ w' = w := by
  rcases h with h | h
  · have hh : (s.size : Int) < 1 := by omega
    go_enter Tryz.func55, Tryz.ntmps55
    go_wp2
    go_ret
    exact ⟨rfl, rfl⟩
  · have hh : (64 : Int) < s.size := by omega
    have h1 : ¬ (s.size : Int) < 1 := by omega
    go_enter Tryz.func55, Tryz.ntmps55
    go_wp2
    go_ret
    exact ⟨rfl, rfl⟩
set_option maxHeartbeats 1000000 in
theorem specIsWord_mid (s : ByteArray) (w : World) (h1 : 1 ≤ s.size) (h2 : s.size ≤ 64) :
    Calls Tryz.prog 55 #[.string s] w fun e w' => e = .returned (.bool (allW s.data.toList)) ∧ w' = w := by
  have g1 : ¬ (s.size : Int) < 1 := by omega
  have g2 : ¬ (64 : Int) < s.size := by omega
  go_enter Tryz.func55, Tryz.ntmps55
  go_wp2
  go_loop [3] (fun i => ∃ k : Nat, k ≤ s.size ∧ i = .int .i64 k ∧ allW (s.data.toList.take k) = true) (fun i => s.size - (intOf i).toNat)
  case atStart => exact ⟨0, Nat.zero_le _, rfl, rfl⟩
  case round =>
    obtain ⟨k, hk, rfl, hall⟩ := hrel
    by_cases hlt : k < s.size
    · have hb : ((s[k].toNat : Nat) : Int) < 256 := by have := s[k].toNat_lt; omega
      cases hw : wordI (s[k].toNat : Int)
      · have HN : Hid (allW s.data.toList = false) := allW_not s k hlt hw
        have HW : Hid (wordI (s[k].toNat : Int) = false) := hw
        clear hall hw
        go_wp2_with fail
        refine (wordByte_any _ _ (by omega) hb).mono ?_
        rintro e w' ⟨rfl, rfl⟩
        rw [HW.out]
        go_wp2
        go_ret
        exact ⟨ret_bool HN.out.symm, rfl⟩
      · have HA : Hid (allW (s.data.toList.take (k + 1)) = true) := by
          show _ = _
          rw [take_snoc s k hlt, allW_snoc, hall, hw]; rfl
        have HW : Hid (wordI (s[k].toNat : Int) = true) := hw
        clear hall hw
        go_wp2_with fail
        refine (wordByte_any _ _ (by omega) hb).mono ?_
        rintro e w' ⟨rfl, rfl⟩
        rw [HW.out]
        go_wp2
        go_round
        case rel => exact ⟨k + 1, by omega, by go_num, HA.out⟩
        case measure => simp [intOf]; omega
    · have ek : s.data.toList.take k = s.data.toList := List.take_of_length_le (by simp; omega)
      rw [ek] at hall
      have HN : Hid (allW s.data.toList = true) := hall
      clear ek hall
      go_wp2
      go_ret
      exact ⟨ret_bool HN.out.symm, rfl⟩
theorem specIsWord_any (s : ByteArray) (w : World) :
    Calls Tryz.prog 55 #[.string s] w fun e w' => e = .returned (.bool (wordS s)) ∧ w' = w := by
  by_cases c : s.size < 1 ∨ 64 < s.size
  · have h : wordS s = false := by
      rcases c with c | c
      · exact wordS_short s c
      · exact wordS_long s c
    rw [h]; exact specIsWord_size s w c
  · rw [wordS_mid s (by omega) (by omega)]
    exact specIsWord_mid s w (by omega) (by omega)
set_option maxHeartbeats 1000000 in
theorem hasOnly_any (s : ByteArray) (cs : Array Value) (w : World) (hs : s.size ≤ 64) (hcs : ∀ i, i < 128 → cs[i]? = some (.bool (wordI (i : Int)))) :
    Calls Tryz.prog 74 #[.string s, .agg cs] w fun e w' => e = .returned (.bool (allW s.data.toList)) ∧ Below w.heap.size w w' := by
  have hcell : ∀ i, i < 128 → (w.alloc (.cells cs 115)).cell? ⟨w.heap.size, i, none⟩ = some (.bool (wordI (i : Int))) := fun i hi => by
    rw [World.cell?_alloc_mark]; exact hcs i hi
  have HC : Hid (∀ i, i < 128 → (w.alloc (.cells cs 115)).cell? ⟨w.heap.size, i, none⟩ = some (.bool (wordI (i : Int)))) := hcell
  clear hcell hcs
  go_enter Tryz.func74, Tryz.ntmps74
  go_wp2
  go_loop [9] (fun i => ∃ k : Nat, k ≤ s.size ∧ i = .int .i64 k ∧ allW (s.data.toList.take k) = true) (fun i => s.size - (intOf i).toNat)
  case atStart => exact ⟨0, Nat.zero_le _, rfl, rfl⟩
  case round =>
    obtain ⟨k, hk, rfl, hall⟩ := hrel
    by_cases hlt : k < s.size
    · have hb : ((s[k].toNat : Nat) : Int) < 256 := by have := s[k].toNat_lt; omega
      by_cases hbig : 128 ≤ (s[k].toNat : Int)
      · have HN : Hid (allW s.data.toList = false) := allW_not s k hlt (wordI_big _ hbig)
        clear hall
        go_wp2
        go_ret
        exact ⟨ret_bool HN.out.symm, (Below.refl _ _).alloc (Nat.le_refl _) _⟩
      · have hc := HC.out s[k].toNat (by omega)
        cases hw : wordI (s[k].toNat : Int)
        · have HN : Hid (allW s.data.toList = false) := allW_not s k hlt hw
          rw [hw] at hc
          clear hall hw
          go_wp2
          go_ret
          exact ⟨ret_bool HN.out.symm, (Below.refl _ _).alloc (Nat.le_refl _) _⟩
        · have HA : Hid (allW (s.data.toList.take (k + 1)) = true) := by
            show _ = _
            rw [take_snoc s k hlt, allW_snoc, hall, hw]; rfl
          rw [hw] at hc
          clear hall hw
          go_wp2
          go_round
          case rel => exact ⟨k + 1, by omega, by go_num, HA.out⟩
          case measure => simp [intOf]; omega
    · have ek : s.data.toList.take k = s.data.toList := List.take_of_length_le (by simp; omega)
      rw [ek] at hall
      have HN : Hid (allW s.data.toList = true) := hall
      clear ek hall
      go_wp2
      go_ret
      exact ⟨ret_bool HN.out.symm, (Below.refl _ _).alloc (Nat.le_refl _) _⟩
end Go.Proofs.YtmnblligifgcjaaGreatDoor
/-
  A slice of bytes that the call itself grows: one byte more.
-/
namespace Go.Proofs.YtmnblligifgcjaaGreatDoor
open Go.ChangeShapes Go.WideShapes Go.ChangeAt Go.RowKit
theorem infoByteB : (Tryz.prog.info? 5).map (fun i => (i.zero, i.size, i.bytes)) = some (some (.int .u8 0), 1, 1) := by kernel_rfl
def bytesW (l : List UInt8) : List Value := l.map fun c => Value.int .u8 (c.toNat : Int)
/-- v, a slice that is not nil, holds the bytes l in a row of the call's own, from block base on. -/
structure OwnB (w : World) (base : Nat) (v : Value) (l : List UInt8) : Prop where
  own : w.ownsRow base 5 1 v l.length (bytesW l)
  nn : v ≠ .slice none 0 0
theorem own_geB {w : World} {base : Nat} {e : TypeId} {size : Nat} {v : Value} {n : Nat} {xs : List Value} (h : w.ownsRow base e size v n xs) (q : Nat) (hq : v.ownBlock = some q) : base ≤ q := by
  obtain ⟨_, h | ⟨g, c, cur, rfl, hg, _⟩⟩ := h
  · rw [h.1] at hq; cases hq
  · simp only [Value.ownBlock, Option.some.injEq] at hq; omega
theorem OwnB.text {w : World} {base : Nat} {v : Value} {l : List UInt8} (h : OwnB w base v l) :
    (convert 22 9 v).run Tryz.prog w = .ok (.string ⟨l.toArray⟩) w := by
  have h0 := h.own
  obtain ⟨_, hn | ⟨g, c, cur, rfl, hg, _⟩⟩ := h.own
  · exact absurd hn.1 h.nn
  · refine run_convert_bytes_back w 22 9 5 ⟨g, 0, none⟩ c l Tryz.underlying22 Tryz.underlying5 Tryz.underlying9 ?_
    intro j hj
    have := h0.cellAt j (by omega)
    have e : (⟨g, 0, none⟩ : Addr).add j = ⟨g, j, none⟩ := by unfold Addr.add; split <;> simp_all
    rw [e, this]
    simp [bytesW, hj]
/-- A slice literal of bytes, just laid. -/
theorem OwnB.made (w : World) (base : Nat) (hb : base ≤ w.heap.size) (l : List UInt8) (hl : l.length ≤ 1000000) : OwnB (w.alloc (.cells (bytesW l).toArray 5)) base (.slice (some ⟨w.heap.size, 0, none⟩) l.length l.length) l where
  own := ⟨by simp [bytesW], .inr ⟨w.heap.size, l.length, (bytesW l).toArray, rfl, hb, heap_alloc_new _ _, Nat.le_refl _, by unfold maxLen; omega, by simp [bytesW], by simp [bytesW, List.take_of_length_le]⟩⟩
  nn := by simp
theorem OwnB.below {w w' : World} {base : Nat} {v : Value} {l : List UInt8} (h : OwnB w base v l) (hb : Below w.heap.size w w') : OwnB w' base v l := by
  refine ⟨?_, h.nn⟩
  obtain ⟨h1, h2⟩ := h.own
  refine ⟨h1, ?_⟩
  rcases h2 with h2 | ⟨g, c, cur, e, hg, hh, hrest⟩
  · exact .inl h2
  · exact .inr ⟨g, c, cur, e, hg, by rw [hb.block g (Array.getElem?_eq_some_iff.1 hh).1]; exact hh, hrest⟩
/-- 'out = append(out, c)', the byte laid in a block of its own right ahead. -/
theorem wpList_append_byte {ops : Array Oper} {rest : List Oper} {o : Oper} {a : Act} {Q : Exit → Act → World → Prop} (w : World) (hgd : o.guard = none) (s x : Operand)
    (ho : o.op = .call { callee := .builtin .append, args := #[s, x], argTypes := #[22, 22] }) (base : Nat) (v : Value) (l : List UInt8) (z : Int) (c : UInt8)
    (hs : a.eval s = v) (hx : a.eval x = .slice (some ⟨w.heap.size, 0, none⟩) 1 1) (hown : OwnB w base v l) (hc : (c.toNat : Int) = z) (hl : l.length ≤ 1000000) (hbase : base ≤ w.heap.size)
    (h : ∀ v' w', OwnB w' base v' (l ++ [c]) → Below base w w' → w.heap.size ≤ w'.heap.size → wpList Tryz.prog ops Q rest (a.put o.dst v') w') :
    wpList Tryz.prog ops Q (o :: rest) a (w.alloc (.cells #[.int .u8 z] 5)) := by
  obtain ⟨i0, hi, hz0, hz1, hz2⟩ := info_parts infoByteB
  refine wpList_append_own _ hgd s x 22 ho base 5 i0 (.int .u8 0) 1 1 Tryz.underlying22 hi hz0 hz1 hz2 rfl (by decide) v l.length (bytesW l) hs (hown.own.alloc _) ⟨w.heap.size, 0, none⟩ 1 1 [.int .u8 z] hx rfl ?_ ?_ ?_ ?_ ?_ ?_
  · intro j u hj
    match j, hj with
    | 0, hj => simp at hj; subst hj; simp [Addr.add]
  · intro u hu; simp at hu; subst hu; rfl
  · unfold maxLen; omega
  · omega
  · simp; omega
  · intro v' w' h1 h2 h3
    have e : bytesW (l ++ [c]) = bytesW l ++ [Value.int .u8 z] := by simp [bytesW, hc]
    refine h v' w' ⟨by rw [e, List.length_append]; exact h1, fun hv => hown.nn (h3.1 hv).1⟩ ?_ ?_
    · exact ((Below.refl base w).alloc hbase _).grown h2 (by simp; omega) (fun q hq => own_geB hown.own q hq)
    · have hb := ((Below.refl 0 w).alloc (Nat.zero_le _) (.cells #[.int .u8 z] 5)).grown h2 (Nat.zero_le _) (fun q _ => Nat.zero_le _)
      exact hb.size
end Go.Proofs.YtmnblligifgcjaaGreatDoor
/-
  What the model's l2Plain and l2PlainText answer.
-/
namespace Go.Proofs.YtmnblligifgcjaaGreatDoor
open Go.ChangeShapes Go.WideShapes Go.ChangeAt Go.RowKit
set_option maxHeartbeats 400000 in
theorem plain_any (c : Int) (w : World) (h0 : 0 ≤ c) (h1 : c < 256) :
    Calls Tryz.prog 97 #[.int .u8 c] w fun e w' => e = .returned (.bool (plainI c)) ∧ w' = w := by
  by_cases e9 : c = 9
  · subst e9
    go_enter Tryz.func97, Tryz.ntmps97
    go_wp2
    go_ret
    exact ⟨rfl, rfl⟩
  · have d9 : (c == 9) = false := by simpa using e9
    by_cases a1 : 32 ≤ c
    · by_cases a2 : c ≤ 126
      · have d2 : decide (c ≤ 126) = true := by simpa using a2
        have HP : Hid (plainI c = true) := by show _ = _; simp [plainI, a1, a2]
        go_enter Tryz.func97, Tryz.ntmps97
        go_wp2
        go_ret
        exact ⟨ret_bool HP.out.symm, rfl⟩
      · have d2 : decide (c ≤ 126) = false := by simpa using a2
        have HP : Hid (plainI c = false) := by show _ = _; simp [plainI, e9]; omega
        go_enter Tryz.func97, Tryz.ntmps97
        go_wp2
        go_ret
        exact ⟨ret_bool HP.out.symm, rfl⟩
    · have HP : Hid (plainI c = false) := by show _ = _; simp [plainI, e9]; omega
      go_enter Tryz.func97, Tryz.ntmps97
      go_wp2
      go_ret
      exact ⟨ret_bool HP.out.symm, rfl⟩
set_option maxHeartbeats 1000000 in
theorem plainText_any (s : ByteArray) (w : World) (hs : s.size ≤ 1048576) :
    Calls Tryz.prog 76 #[.string s] w fun e w' => e = .returned (.bool (plainL s.data.toList)) ∧ w' = w := by
  go_enter Tryz.func76, Tryz.ntmps76
  go_wp2
  go_loop [3] (fun i => ∃ k : Nat, k ≤ s.size ∧ i = .int .i64 k ∧ plainL (s.data.toList.take k) = true) (fun i => s.size - (intOf i).toNat)
  case atStart => exact ⟨0, Nat.zero_le _, rfl, rfl⟩
  case round =>
    obtain ⟨k, hk, rfl, hall⟩ := hrel
    by_cases hlt : k < s.size
    · have hb : ((s[k].toNat : Nat) : Int) < 256 := by have := s[k].toNat_lt; omega
      cases hw : plainI (s[k].toNat : Int)
      · have HN : Hid (plainL s.data.toList = false) := plainL_not s k hlt hw
        have HW : Hid (plainI (s[k].toNat : Int) = false) := hw
        clear hall hw
        go_wp2_with fail
        refine (plain_any _ _ (by omega) hb).mono ?_
        rintro e w' ⟨rfl, rfl⟩
        rw [HW.out]
        go_wp2
        go_ret
        exact ⟨ret_bool HN.out.symm, rfl⟩
      · have HA : Hid (plainL (s.data.toList.take (k + 1)) = true) := by
          show _ = _
          rw [take_snoc s k hlt, plainL_snoc, hall, hw]; rfl
        have HW : Hid (plainI (s[k].toNat : Int) = true) := hw
        clear hall hw
        go_wp2_with fail
        refine (plain_any _ _ (by omega) hb).mono ?_
        rintro e w' ⟨rfl, rfl⟩
        rw [HW.out]
        go_wp2
        go_round
        case rel => exact ⟨k + 1, by omega, by go_num, HA.out⟩
        case measure => simp [intOf]; omega
    · have ek : s.data.toList.take k = s.data.toList := List.take_of_length_le (by simp; omega)
      rw [ek] at hall
      have HN : Hid (plainL s.data.toList = true) := hall
      clear ek hall
      go_wp2
      go_ret
      exact ⟨ret_bool HN.out.symm, rfl⟩
end Go.Proofs.YtmnblligifgcjaaGreatDoor
/-
  What the model's l1Trim answers.
-/
namespace Go.Proofs.YtmnblligifgcjaaGreatDoor
open Go.ChangeShapes Go.WideShapes Go.ChangeAt Go.RowKit
set_option maxHeartbeats 400000 in
theorem blank_any (c : Int) (w : World) :
    Calls Tryz.prog 98 #[.int .u8 c] w fun e w' => e = .returned (.bool (blankI c)) ∧ w' = w := by
  by_cases h1 : c = 32
  · subst h1
    go_enter Tryz.func98, Tryz.ntmps98
    go_wp2
    go_ret
    exact ⟨rfl, rfl⟩
  · by_cases h2 : c = 9
    · subst h2
      go_enter Tryz.func98, Tryz.ntmps98
      go_wp2
      go_ret
      exact ⟨rfl, rfl⟩
    · have d1 : (c == 32) = false := by simpa using h1
      have d2 : (c == 9) = false := by simpa using h2
      have HB : Hid (blankI c = false) := by
        show _ = _
        unfold blankI
        rw [d1, d2]; rfl
      clear h1 h2
      go_enter Tryz.func98, Tryz.ntmps98
      go_wp2
      go_ret
      exact ⟨ret_bool HB.out.symm, rfl⟩
set_option maxHeartbeats 1000000 in
theorem l1Trim_big (s : ByteArray) (w : World) (hs : s.size ≤ 1048576) :
    Calls Tryz.prog 77 #[.string s] w fun e w' => e = .returned (.string (trimT s)) ∧ w' = w := by
  go_enter Tryz.func77, Tryz.ntmps77
  go_wp2
  go_loop [3] (fun i => ∃ k : Nat, k ≤ s.size ∧ i = .int .i64 k ∧ ∀ (j : Nat) b, j < k → s.data.toList[j]? = some b → blankI (b.toNat : Int) = true) (fun i => s.size - (intOf i).toNat)
  case atStart => exact ⟨0, Nat.zero_le _, rfl, fun j b h => absurd h (Nat.not_lt_zero _)⟩
  case round =>
    obtain ⟨k, hk, rfl, hall⟩ := hrel
    have H1 : Hid (∀ (j : Nat) b, j < k → s.data.toList[j]? = some b → blankI (b.toNat : Int) = true) := hall
    clear hall
    by_cases hgo : ∃ h : k < s.size, blankI (s[k].toNat : Int) = true
    · obtain ⟨hlt, hb⟩ := hgo
      have HB : Hid (blankI (s[k].toNat : Int) = true) := hb
      clear hb
      go_wp2_with fail
      refine (blank_any _ _).mono ?_
      rintro e w' ⟨rfl, rfl⟩
      rw [HB.out]
      go_wp2
      go_round
      case rel =>
        refine ⟨k + 1, by omega, by go_num, fun j b hj hbj => ?_⟩
        by_cases e : j = k
        · subst e
          have : s.data.toList[j]? = some s[j] := by rw [List.getElem?_eq_getElem (by simpa using hlt)]; rfl
          rw [this] at hbj
          obtain rfl := Option.some.inj hbj
          exact HB.out
        · exact H1.out j b (by omega) hbj
      case measure => simp [intOf]; omega
    · have H2 : Hid (∀ b, k < s.data.toList.length → s.data.toList[k]? = some b → blankI (b.toNat : Int) = false) := by
        intro b hlt hb
        have hlt' : k < s.size := by simpa using hlt
        have : s.data.toList[k]? = some s[k] := by rw [List.getElem?_eq_getElem hlt]; rfl
        rw [this] at hb
        obtain rfl := Option.some.inj hb
        cases hx : blankI (s[k].toNat : Int)
        · rfl
        · exact absurd ⟨hlt', hx⟩ hgo
      by_cases hlt : k < s.size
      · have HB : Hid (blankI (s[k].toNat : Int) = false) := by
          show _ = _
          cases hx : blankI (s[k].toNat : Int)
          · rfl
          · exact absurd ⟨hlt, hx⟩ hgo
        clear hgo
        go_wp2_with fail
        refine (blank_any _ _).mono ?_
        rintro e w' ⟨rfl, rfl⟩
        rw [HB.out]
        clear HB
        go_wp2
        go_loop [4] (fun i => ∃ m : Nat, k ≤ m ∧ m ≤ s.size ∧ i = .int .i64 m ∧ ∀ (j : Nat) b, m ≤ j → s.data.toList[j]? = some b → blankI (b.toNat : Int) = true) (fun i => (intOf i).toNat)
        case atStart => exact ⟨s.size, hk, Nat.le_refl _, rfl, fun j b hj hb => absurd (List.getElem?_eq_some_iff.1 hb).1 (by simp; omega)⟩
        case round =>
          obtain ⟨m, hkm, hm, rfl, hall⟩ := hrel
          have H3 : Hid (∀ (j : Nat) b, m ≤ j → s.data.toList[j]? = some b → blankI (b.toNat : Int) = true) := hall
          clear hall
          by_cases hkm2 : k < m
          · obtain ⟨n, rfl⟩ : ∃ n, m = n + 1 := ⟨m - 1, by omega⟩
            have hn : n < s.size := by omega
            cases hb : blankI (s[n].toNat : Int)
            · have HB : Hid (blankI (s[n].toNat : Int) = false) := hb
              have HT : Hid (s.extract k (n + 1) = trimT s) := by
                refine trim_extract s k (n + 1) (trim_between _ k (n + 1) hkm (by simpa using hm) H1.out H2.out H3.out ?_)
                intro b _ hbn
                have : s.data.toList[n]? = some s[n] := by rw [List.getElem?_eq_getElem (by simpa using hn)]; rfl
                rw [Nat.add_sub_cancel, this] at hbn
                obtain rfl := Option.some.inj hbn
                exact HB.out
              clear hb
              go_wp2_with fail
              refine (blank_any _ _).mono ?_
              rintro e w' ⟨rfl, rfl⟩
              rw [HB.out]
              go_wp2
              go_ret
              exact ⟨ret_str HT.out, rfl⟩
            · have HB : Hid (blankI (s[n].toNat : Int) = true) := hb
              clear hb
              go_wp2_with fail
              refine (blank_any _ _).mono ?_
              rintro e w' ⟨rfl, rfl⟩
              rw [HB.out]
              go_wp2
              go_round
              case rel =>
                refine ⟨n, by omega, by omega, by go_num, fun j b hj hbj => ?_⟩
                by_cases e : j = n
                · subst e
                  have : s.data.toList[j]? = some s[j] := by rw [List.getElem?_eq_getElem (by simpa using hn)]; rfl
                  rw [this] at hbj
                  obtain rfl := Option.some.inj hbj
                  exact HB.out
                · exact H3.out j b (by omega) hbj
              case measure => simp [intOf]
          · obtain rfl : k = m := by omega
            have HT : Hid (ByteArray.empty = trimT s) := by
              have e := trim_extract s k k (trim_between _ k k (Nat.le_refl _) (by simpa using hm) H1.out H2.out H3.out (fun b h => absurd h (Nat.lt_irrefl _)))
              have e0 : s.extract k k = ByteArray.empty := by simp
              exact e0.symm.trans e
            go_wp2
            go_ret
            exact ⟨ret_str HT.out, rfl⟩
      · clear hgo
        go_wp2
        go_loop [4] (fun i => ∃ m : Nat, k ≤ m ∧ m ≤ s.size ∧ i = .int .i64 m ∧ ∀ (j : Nat) b, m ≤ j → s.data.toList[j]? = some b → blankI (b.toNat : Int) = true) (fun i => (intOf i).toNat)
        case atStart => exact ⟨s.size, hk, Nat.le_refl _, rfl, fun j b hj hb => absurd (List.getElem?_eq_some_iff.1 hb).1 (by simp; omega)⟩
        case round =>
          obtain ⟨m, hkm, hm, rfl, hall⟩ := hrel
          have H3 : Hid (∀ (j : Nat) b, m ≤ j → s.data.toList[j]? = some b → blankI (b.toNat : Int) = true) := hall
          clear hall
          obtain rfl : k = m := by omega
          have HT : Hid (ByteArray.empty = trimT s) := by
            have e := trim_extract s k k (trim_between _ k k (Nat.le_refl _) (by simpa using hm) H1.out H2.out H3.out (fun b h => absurd h (Nat.lt_irrefl _)))
            have e0 : s.extract k k = ByteArray.empty := by simp
            exact e0.symm.trans e
          go_wp2
          go_ret
          exact ⟨ret_str HT.out, rfl⟩
theorem l1Trim_any (s : ByteArray) (w : World) (hs : s.size ≤ 1000) :
    Calls Tryz.prog 77 #[.string s] w fun e w' => e = .returned (.string (trimT s)) ∧ w' = w := l1Trim_big s w (by omega)
end Go.Proofs.YtmnblligifgcjaaGreatDoor
/-
  What the model's l4Line and HeadersFault answer.
-/
namespace Go.Proofs.YtmnblligifgcjaaGreatDoor
open Go.ChangeShapes Go.WideShapes Go.ChangeAt Go.RowKit
theorem hstr_ne {a b : ByteArray} (h : a ≠ b) : (a.toList == b.toList) = false := by
  rw [beq_eq_false_iff_ne]
  intro e
  rw [ByteArray.toList_eq, ByteArray.toList_eq] at e
  exact h (ByteArray.ext (Array.ext' e))
set_option maxHeartbeats 2000000 in
theorem l4Line_any (r : Hdr) (w : World) :
    Calls Tryz.prog 54 #[.agg #[.string r.name, .string r.value]] w fun e w' => e = .returned (.int .i64 (faultH r)) ∧ Below w.heap.size w w' := by
  obtain ⟨n, v⟩ := r
  simp only
  have kb : Below w.heap.size w (w.alloc (.cells #[.string n, .string v] 51)) := (Below.refl _ _).alloc (Nat.le_refl _) _
  have KB : Hid (Below w.heap.size w (w.alloc (.cells #[.string n, .string v] 51))) := kb
  clear kb
  have HW : Hid (∀ w, Calls Tryz.prog 55 #[.string n] w fun e w' => e = .returned (.bool (wordS n)) ∧ w' = w) := specIsWord_any n
  cases hw : wordS n
  · have HE : Hid (faultH ⟨n, v⟩ = 5) := by show _ = _; simp [faultH, hw]
    rw [hw] at HW
    clear hw
    go_enter Tryz.func54, Tryz.ntmps54
    go_wp2_with fail
    refine (HW.out _).mono ?_
    rintro e w1 ⟨rfl, rfl⟩
    go_wp2_with fail
    go_ret
    exact ⟨ret_int HE.out.symm, KB.out⟩
  rw [hw] at HW
  by_cases hbig : 200 < v.size
  · have HE : Hid (faultH ⟨n, v⟩ = 2) := by show _ = _; simp only [faultH, hw]; rw [if_neg (by simp), if_pos hbig]
    have g : (200 : Int) < v.size := by omega
    clear hw
    go_enter Tryz.func54, Tryz.ntmps54
    go_wp2_with fail
    refine (HW.out _).mono ?_
    rintro e w1 ⟨rfl, rfl⟩
    go_wp2_with fail
    go_ret
    exact ⟨ret_int HE.out.symm, KB.out⟩
  have g : ¬ (200 : Int) < v.size := by omega
  have HP : Hid (∀ w, Calls Tryz.prog 76 #[.string v] w fun e w' => e = .returned (.bool (plainL v.data.toList)) ∧ w' = w) := fun w => plainText_any v w (by omega)
  have HT : Hid (∀ w, Calls Tryz.prog 77 #[.string v] w fun e w' => e = .returned (.string (trimT v)) ∧ w' = w) := fun w => l1Trim_any v w (by omega)
  cases hp : plainL v.data.toList
  · have HE : Hid (faultH ⟨n, v⟩ = 5) := by show _ = _; simp only [faultH, hw]; rw [if_neg (by simp), if_neg hbig, if_pos hp]
    rw [hp] at HP
    clear hw hp hbig
    go_enter Tryz.func54, Tryz.ntmps54
    go_wp2_with fail
    refine (HW.out _).mono ?_
    rintro e w1 ⟨rfl, rfl⟩
    go_wp2_with fail
    refine (HP.out _).mono ?_
    rintro e w1 ⟨rfl, rfl⟩
    go_wp2_with fail
    go_ret
    exact ⟨ret_int HE.out.symm, KB.out⟩
  rw [hp] at HP
  by_cases ht : trimT v = v
  · have HE : Hid (faultH ⟨n, v⟩ = 0) := by show _ = _; simp only [faultH, hw]; rw [if_neg (by simp), if_neg hbig, if_neg (by simp [hp]), if_pos ht]
    rw [ht] at HT
    clear hw hp hbig ht
    go_enter Tryz.func54, Tryz.ntmps54
    go_wp2_with fail
    refine (HW.out _).mono ?_
    rintro e w1 ⟨rfl, rfl⟩
    go_wp2_with fail
    refine (HP.out _).mono ?_
    rintro e w1 ⟨rfl, rfl⟩
    go_wp2_with fail
    refine (HT.out _).mono ?_
    rintro e w1 ⟨rfl, rfl⟩
    go_wp2_with fail
    go_ret
    exact ⟨ret_int HE.out.symm, KB.out⟩
  · have HE : Hid (faultH ⟨n, v⟩ = 5) := by show _ = _; simp only [faultH, hw]; rw [if_neg (by simp), if_neg hbig, if_neg (by simp [hp]), if_neg ht]
    have hq := hstr_ne ht
    generalize trimT v = t at *
    clear hw hp hbig ht
    go_enter Tryz.func54, Tryz.ntmps54
    go_wp2_with fail
    refine (HW.out _).mono ?_
    rintro e w1 ⟨rfl, rfl⟩
    go_wp2_with fail
    refine (HP.out _).mono ?_
    rintro e w1 ⟨rfl, rfl⟩
    go_wp2_with fail
    refine (HT.out _).mono ?_
    rintro e w1 ⟨rfl, rfl⟩
    go_wp2_with fail
    go_ret
    exact ⟨ret_int HE.out.symm, KB.out⟩
set_option maxRecDepth 100000 in
set_option maxHeartbeats 4000000 in
theorem specHFault_any (w : World) (a : Option Addr) (cap : Nat) (l : List Hdr) (hl : l.length ≤ 1048576) (hi : HdsIn w a l) :
    Calls Tryz.prog 29 #[.slice a l.length cap] w fun e w' => e = .returned (.int .i64 (headsC l)) ∧ Below w.heap.size w w' := by
  by_cases h20 : 20 < l.length
  · have HE : Hid (headsC l = 2) := headsC_many h20
    have g : (20 : Int) < (l.length : Int) := by omega
    clear hi
    generalize l.length = n at *
    go_enter Tryz.func29, Tryz.ntmps29
    go_wp2_with fail
    go_ret
    exact ⟨ret_int HE.out.symm, Below.refl _ _⟩
  have HC : Hid (headsC l = faultHL l) := headsC_few h20
  have HI : Hid (HdsIn w a l) := hi
  clear hi
  generalize hn : l.length = n at *
  have HN : Hid (l.length = n) := hn
  clear hn
  have g : ¬ (20 : Int) < (n : Int) := by omega
  go_enter Tryz.func29, Tryz.ntmps29
  go_wp2_with fail
  go_loopw [3] (fun i wr => ∃ k : Nat, k ≤ n ∧ i = .int .i64 k ∧ faultHL l = faultHL (l.drop k) ∧ Below w.heap.size w wr) (fun i _ => n - (intOf i).toNat)
  case atStart => exact ⟨0, Nat.zero_le _, rfl, rfl, Below.refl _ _⟩
  case round =>
    obtain ⟨k, hk, rfl, hf, hb⟩ := hrel
    have HF : Hid (faultHL l = faultHL (l.drop k)) := hf
    clear hf
    by_cases hlt : k < n
    · obtain ⟨r, hr⟩ : ∃ r, l[k]? = some r := ⟨l[k]'(by have := HN.out; omega), List.getElem?_eq_getElem _⟩
      rcases HI.out with h | ⟨b, off, rfl, hat⟩
      · subst h; simp at hr
      obtain ⟨p1, p3⟩ := (hat.keep hb) k r hr
      have HD : Hid (l.drop k = r :: l.drop (k + 1)) := drop_hdr l k r hr
      have gk : (k : Int) < n := by omega
      have SF : Hid (∀ w, Calls Tryz.prog 54 #[.agg #[.string r.name, .string r.value]] w fun e w' => e = .returned (.int .i64 (faultH r)) ∧ Below w.heap.size w w') := l4Line_any r
      clear hr hat HI
      by_cases hfr : faultH r = 0
      · have HX : Hid (faultHL l = faultHL (l.drop (k + 1))) := by show _ = _; rw [HF.out, HD.out, faultHL_ok hfr]
        rw [hfr] at SF
        clear hfr HD HF
        obtain ⟨rn, rv⟩ := r
        simp only at p1 p3 SF
        go_wp2_with fail
        refine (SF.out _).mono ?_
        rintro e w2 ⟨rfl, hb2⟩
        have hbb := hb.trans (hb2.mono hb.size)
        clear hb2 hb
        go_wp2_with fail
        go_roundw
        case rel => exact ⟨k + 1, by omega, by go_num, HX.out, hbb⟩
        case measure => simp [intOf]; omega
      · have HX : Hid (headsC l = faultH r) := by show _ = _; rw [HC.out, HF.out, HD.out, faultHL_bad hfr]
        clear HD HF HC
        obtain ⟨rn, rv⟩ := r
        simp only at p1 p3 SF
        generalize faultH ⟨rn, rv⟩ = fr at *
        go_wp2_with fail
        refine (SF.out _).mono ?_
        rintro e w2 ⟨rfl, hb2⟩
        have hbb := hb.trans (hb2.mono hb.size)
        clear hb2 hb
        go_wp2_with fail
        go_ret
        exact ⟨ret_int HX.out.symm, hbb⟩
    · have HX : Hid (headsC l = 0) := by
        show _ = _
        rw [HC.out, HF.out, List.drop_of_length_le (by have := HN.out; omega)]
        rfl
      clear HF HC
      go_wp2_with fail
      go_ret
      exact ⟨ret_int HX.out.symm, hb⟩
end Go.Proofs.YtmnblligifgcjaaGreatDoor
/-
  What the model's l4Lines answers.
-/
namespace Go.Proofs.YtmnblligifgcjaaGreatDoor
open Go.ChangeShapes Go.WideShapes Go.ChangeAt Go.RowKit
theorem u8_13 (x : UInt8) : x = 13 ↔ (x.toNat : Int) = 13 := by
  constructor
  · rintro rfl; rfl
  · intro h; exact UInt8.toNat_inj.1 (by simpa using (by omega : x.toNat = 13))
theorem u8_10 (x : UInt8) : x = 10 ↔ (x.toNat : Int) = 10 := by
  constructor
  · rintro rfl; rfl
  · intro h; exact UInt8.toNat_inj.1 (by simpa using (by omega : x.toNat = 10))
theorem u8_58 (x : UInt8) : x = 58 ↔ (x.toNat : Int) = 58 := by
  constructor
  · rintro rfl; rfl
  · intro h; exact UInt8.toNat_inj.1 (by simpa using (by omega : x.toNat = 58))
theorem hsize_list (s : ByteArray) : s.data.toList.length = s.size := by simp
theorem drop_get (s : ByteArray) (f k : Nat) (hf : f ≤ k) (hk : k < s.size) (h : k - f < (s.data.toList.drop f).length) : (s.data.toList.drop f)[k - f] = s[k] := by
  rw [List.getElem_drop]
  have e : f + (k - f) = k := by omega
  simp only [e]
  rfl
theorem hext_mk (s : ByteArray) (i j : Nat) : s.extract i j = hmk ((s.data.toList.drop i).take (j - i)) := by
  rw [Lib.extract_eq]; rfl
/-- The state of the walk over the text: O lines are found, the next one begins at f, k is looked at. -/
structure LnAt (s : ByteArray) (O : List (List UInt8)) (f k : Nat) : Prop where
  fk : f ≤ k
  ks : k ≤ s.size
  ol : O.length ≤ k
  eq : linesO s.data.toList = (linesO (s.data.toList.drop f)).map (O ++ ·)
  at' : k - f ≤ crAt (s.data.toList.drop f)
theorem LnAt.start (s : ByteArray) : LnAt s [] 0 0 := ⟨Nat.le_refl _, Nat.zero_le _, Nat.le_refl _, by simp, Nat.zero_le _⟩
theorem LnAt.hit {s : ByteArray} {O : List (List UInt8)} {f k : Nat} (h : LnAt s O f k) (hk : k + 1 < s.size) (h13 : s[k] = 13) (h10 : s[k + 1] = 10) : LnAt s (O ++ [(s.data.toList.drop f).take (k - f)]) (k + 2) (k + 2) := by
  have hl : (s.data.toList.drop f).length = s.size - f := by rw [List.length_drop, hsize_list]
  have hfk := h.fk
  have h1 := drop_get s f k h.fk (by omega) (by omega)
  have h2 := drop_get s f (k + 1) (by omega) hk (by omega)
  have e : k + 1 - f = k - f + 1 := by omega
  simp only [e] at h2
  have hc := (crAt_on _ (k - f) h.at' (by omega)).1 ⟨h1.trans h13, h2.trans h10⟩
  refine ⟨Nat.le_refl _, by omega, by simp; have := h.ol; omega, ?_, by omega⟩
  rw [h.eq, linesO_cut (by omega), hc, List.drop_drop, show f + (k - f + 2) = k + 2 from by omega, Option.map_map]
  congr 1
  funext x
  simp
theorem LnAt.on {s : ByteArray} {O : List (List UInt8)} {f k : Nat} (h : LnAt s O f k) (hk : k + 1 < s.size) (hn : ¬ (s[k] = 13 ∧ s[k + 1] = 10)) : LnAt s O f (k + 1) := by
  have hl : (s.data.toList.drop f).length = s.size - f := by rw [List.length_drop, hsize_list]
  have hfk := h.fk
  have h1 := drop_get s f k h.fk (by omega) (by omega)
  have h2 := drop_get s f (k + 1) (by omega) hk (by omega)
  have e : k + 1 - f = k - f + 1 := by omega
  simp only [e] at h2
  have hc := (crAt_on _ (k - f) h.at' (by omega)).2 (by rw [h1, h2]; exact hn)
  exact ⟨by omega, by omega, by have := h.ol; omega, h.eq, by omega⟩
theorem LnAt.done {s : ByteArray} {O : List (List UInt8)} {f k : Nat} (h : LnAt s O f k) (hk : ¬ k + 1 < s.size) : (f = s.size → linesO s.data.toList = some O) ∧ (f ≠ s.size → linesO s.data.toList = none) ∧ f ≤ s.size := by
  have hl : (s.data.toList.drop f).length = s.size - f := by rw [List.length_drop, hsize_list]
  have hfk := h.fk
  have hks := h.ks
  refine ⟨fun e => ?_, fun e => ?_, by omega⟩
  · rw [h.eq, List.drop_of_length_le (by rw [hsize_list]; omega), linesO_nil]
    simp
  · have h0 : ¬ s.data.toList.drop f = [] := fun x => by have := congrArg List.length x; rw [hl] at this; simp at this; omega
    have hc := crAt_end _ (k - f) h.at' (by omega)
    rw [h.eq, linesO_bad h0 (by omega)]
    rfl
theorem OwnS.shape {w : World} {base : Nat} {v : Value} {l : List ByteArray} (h : OwnS w base v l) : ∃ a c, v = .slice a l.length c ∧ ∀ (k : Nat) x, l[k]? = some x → ∃ g, a = some ⟨g, 0, none⟩ ∧ w.cell? ⟨g, k, none⟩ = some (.string x) := by
  have h0 := h
  obtain ⟨_, h1 | ⟨g, c, cur, rfl, _⟩⟩ := h
  · have e : l = [] := List.eq_nil_of_length_eq_zero h1.2
    exact ⟨none, 0, by rw [h1.1, e]; rfl, fun k x hx => by rw [e] at hx; simp at hx⟩
  · refine ⟨_, c, rfl, fun k x hx => ⟨g, rfl, ?_⟩⟩
    have hk := (List.getElem?_eq_some_iff.1 hx).1
    have := World.ownsRow.cellAt h0 k (by omega)
    rw [this]
    simp [textsW, hx]
theorem ownS_made0 (w : World) (base : Nat) (hb : base ≤ w.heap.size) : OwnS (w.alloc (.cells #[] 9)) base (.slice (some ⟨w.heap.size, 0, none⟩) 0 0) [] := World.ownsRow_made w #[] 0 hb (by unfold maxLen; omega) rfl
def LinesRes (s : ByteArray) (base : Nat) (e : Ending) (w : World) : Prop := ∃ v O ok, e = .returned (.tuple #[v, .bool ok]) ∧ OwnS w base v (O.map hmk) ∧ O.length ≤ 6000 ∧ (ok = true → linesO s.data.toList = some O) ∧ (ok = false → linesO s.data.toList = none)
theorem LinesRes.mk {s : ByteArray} {base : Nat} {w : World} {v : Value} {O : List (List UInt8)} {ok : Bool} (ho : OwnS w base v (O.map hmk)) (hl : O.length ≤ 6000) (h1 : ok = true → linesO s.data.toList = some O) (h2 : ok = false → linesO s.data.toList = none) : LinesRes s base (.returned (.tuple #[v, .bool ok])) w := ⟨v, O, ok, rfl, ho, hl, h1, h2⟩
end Go.Proofs.YtmnblligifgcjaaGreatDoor
/-
  What the model's l1Cut answers.
-/
namespace Go.Proofs.YtmnblligifgcjaaGreatDoor
open Go.ChangeShapes Go.WideShapes Go.ChangeAt Go.RowKit
theorem kdrop (s : ByteArray) (k : Nat) (h : k < s.size) : s.data.toList.drop k = s[k] :: s.data.toList.drop (k + 1) := by
  rw [List.drop_eq_getElem_cons (by simpa using h)]; rfl
theorem kcur (s : ByteArray) (f k : Nat) (hf : f ≤ k) (hk : k < s.size) : (s.data.toList.drop f).take (k + 1 - f) = (s.data.toList.drop f).take (k - f) ++ [s[k]] := by
  have hz := hsize_list s
  rw [show k + 1 - f = (k - f) + 1 from by omega, List.take_add_one, List.getElem?_drop, show f + (k - f) = k from by omega, List.getElem?_eq_getElem (by omega)]
  rfl
/-- O pieces are cut, the next one began at f, k is looked at. -/
structure CtAt (s : ByteArray) (c : UInt8) (O : List (List UInt8)) (f k : Nat) : Prop where
  fk : f ≤ k
  ks : k ≤ s.size
  ol : O.length ≤ k
  eq : cutG c [] s.data.toList = O ++ cutG c ((s.data.toList.drop f).take (k - f)) (s.data.toList.drop k)
theorem CtAt.start (s : ByteArray) (c : UInt8) : CtAt s c [] 0 0 := ⟨Nat.le_refl _, Nat.zero_le _, Nat.le_refl _, by simp⟩
theorem CtAt.hit {s : ByteArray} {c : UInt8} {O : List (List UInt8)} {f k : Nat} (h : CtAt s c O f k) (hk : k < s.size) (hc : s[k] = c) : CtAt s c (O ++ [(s.data.toList.drop f).take (k - f)]) (k + 1) (k + 1) :=
  ⟨Nat.le_refl _, by omega, by simp; exact h.ol, by rw [h.eq, kdrop s k hk, hc, cutG_at]; simp⟩
theorem CtAt.on {s : ByteArray} {c : UInt8} {O : List (List UInt8)} {f k : Nat} (h : CtAt s c O f k) (hk : k < s.size) (hc : ¬ s[k] = c) : CtAt s c O f (k + 1) :=
  ⟨by have := h.fk; omega, by omega, by have := h.ol; omega, by rw [h.eq, kdrop s k hk, cutG_on _ _ hc, kcur s f k h.fk hk]⟩
theorem CtAt.last {s : ByteArray} {c : UInt8} {O : List (List UInt8)} {f : Nat} (h : CtAt s c O f s.size) : cutG c [] s.data.toList = O ++ [(s.data.toList.drop f).take (s.size - f)] := by
  rw [h.eq, List.drop_of_length_le (i := s.size) (by rw [hsize_list]; omega)]
  rfl
def CutRes (ps : List (List UInt8)) (base : Nat) (e : Ending) (w : World) : Prop := ∃ v, e = .returned v ∧ OwnS w base v (ps.map hmk)
set_option maxRecDepth 100000 in
set_option maxHeartbeats 8000000 in
theorem l1Cut_any (s : ByteArray) (c : UInt8) (w : World) (hs : s.size ≤ 6000) :
    Calls Tryz.prog 60 #[.string s, .int .u8 (c.toNat : Int)] w fun e w' => CutRes (cutG c [] s.data.toList) w.heap.size e w' ∧ Below w.heap.size w w' := by
  go_enter Tryz.func60, Tryz.ntmps60
  go_wp2_with fail
  go_loopw [5, 6, 7] (fun v fr i wr => ∃ (O : List (List UInt8)) (f k : Nat), fr = .int .i64 (f : Int) ∧ i = .int .i64 (k : Int) ∧ (CtAt s c O f k ∨ (k = s.size + 1 ∧ cutG c [] s.data.toList = O)) ∧ OwnS wr w.heap.size v (O.map hmk) ∧ Below w.heap.size w wr) (fun _ _ i _ => s.size + 1 - (intOf i).toNat)
  case atStart => exact ⟨[], 0, 0, rfl, rfl, .inl (CtAt.start s c), ownS_made0 w w.heap.size (Nat.le_refl _), (Below.refl _ _).alloc (Nat.le_refl _) _⟩
  case round =>
    obtain ⟨O, f, k, rfl, rfl, hL, ho, hb⟩ := hrel
    have HO : Hid (OwnS wr w.heap.size u5 (O.map hmk)) := ho
    have hzb := hb.size
    clear ho
    rcases hL with hL | ⟨hk, hL⟩
    · have HL : Hid (CtAt s c O f k) := hL
      have hfk := hL.fk
      have hks := hL.ks
      have hol := hL.ol
      clear hL
      have g0 : (k : Int) ≤ s.size := by omega
      have gf0 : (0 : Int) ≤ f := by omega
      have gfk : (f : Int) ≤ k := by omega
      have HE : Hid (s.extract f k = hmk ((s.data.toList.drop f).take (k - f))) := hext_mk s f k
      have HM : Hid ((O ++ [(s.data.toList.drop f).take (k - f)]).map hmk = O.map hmk ++ [s.extract f k]) := by show _ = _; rw [List.map_append, HE.out]; rfl
      have hml : (O.map hmk).length ≤ 6000 := by rw [List.length_map]; omega
      by_cases hlt : k < s.size
      · have de : ((k : Int) == (s.size : Int)) = false := by simp; omega
        by_cases hc : s[k] = c
        · have HN : Hid (CtAt s c (O ++ [(s.data.toList.drop f).take (k - f)]) (k + 1) (k + 1)) := HL.out.hit hlt hc
          have dc : ((s[k].toNat : Int) == (c.toNat : Int)) = true := by rw [hc]; simp
          clear HL hc HE
          generalize O.map hmk = OM at *
          go_wp2_with (at_builtin; refine wpList_append_str _ rfl (.tmp 26) (.tmp 31) rfl w.heap.size _ OM (s.extract f k) rfl rfl HO.out (by omega) hzb ?_; intro v4 w4 HO4 hb4 hz4)
          go_roundw
          case rel => exact ⟨_, k + 1, k + 1, by go_num, by go_num, .inl HN.out, by rw [HM.out]; exact HO4, hb.trans hb4⟩
          case measure => simp [intOf]; omega
        · have HN : Hid (CtAt s c O f (k + 1)) := HL.out.on hlt hc
          have dc : ((s[k].toNat : Int) == (c.toNat : Int)) = false := by
            rw [beq_eq_false_iff_ne]
            intro e
            exact hc (UInt8.toNat_inj.1 (by omega))
          clear HL hc HE HM
          go_wp2_with fail
          go_roundw
          case rel => exact ⟨O, f, k + 1, rfl, by go_num, .inl HN.out, HO.out, hb⟩
          case measure => simp [intOf]; omega
      · have ek : k = s.size := by omega
        subst ek
        have HN : Hid (cutG c [] s.data.toList = O ++ [(s.data.toList.drop f).take (s.size - f)]) := HL.out.last
        have de : ((s.size : Int) == (s.size : Int)) = true := by simp
        clear HL HE
        generalize O.map hmk = OM at *
        go_wp2_with (at_builtin; refine wpList_append_str _ rfl (.tmp 26) (.tmp 31) rfl w.heap.size _ OM (s.extract f s.size) rfl rfl HO.out (by omega) hzb ?_; intro v4 w4 HO4 hb4 hz4)
        go_roundw
        case rel => exact ⟨_, s.size + 1, s.size + 1, by go_num, by go_num, .inr ⟨rfl, HN.out⟩, by rw [HM.out]; exact HO4, hb.trans hb4⟩
        case measure => simp [intOf]
    · have g0 : ¬ (k : Int) ≤ s.size := by omega
      have HL : Hid (cutG c [] s.data.toList = O) := hL
      clear hL
      go_wp2_with fail
      go_ret
      exact ⟨⟨_, rfl, by rw [HL.out]; exact HO.out⟩, hb⟩
end Go.Proofs.YtmnblligifgcjaaGreatDoor
/-
  What the model's l5Sort answers.
-/
namespace Go.Proofs.YtmnblligifgcjaaGreatDoor
open Go.ChangeShapes Go.WideShapes Go.ChangeAt Go.RowKit
/-- append of many texts, that lie elsewhere, onto the call's own. -/
theorem wpList_append_strs {ops : Array Oper} {rest : List Oper} {o : Oper} {a : Act} {Q : Exit → Act → World → Prop} (w : World) (hgd : o.guard = none) (s x : Operand)
    (ho : o.op = .call { callee := .builtin .append, args := #[s, x], argTypes := #[25, 25] }) (base : Nat) (v : Value) (l : List ByteArray) (m : List ByteArray) (n : Nat) (hn : m.length = n) (ad : Addr) (c : Nat)
    (hs : a.eval s = v) (hx : a.eval x = .slice (some ad) n c) (hown : OwnS w base v l) (hm : ∀ (j : Nat) z, m[j]? = some z → w.cell? (ad.add j) = some (.string z)) (hl : l.length + m.length ≤ 1000000) (hbase : base ≤ w.heap.size)
    (h : ∀ v' w', OwnS w' base v' (l ++ m) → Below base w w' → w.heap.size ≤ w'.heap.size → w.grownBy w' v.ownBlock → wpList Tryz.prog ops Q rest (a.put o.dst v') w') :
    wpList Tryz.prog ops Q (o :: rest) a w := by
  subst hn
  obtain ⟨i0, hi, hz0, hz1, hz2⟩ := info_parts infoStr
  refine wpList_append_own _ hgd s x 25 ho base 9 i0 (.string ⟨#[]⟩) 1 16 Tryz.underlying25 hi hz0 hz1 hz2 rfl (by decide) v l.length (textsW l) hs hown ad m.length c (textsW m) hx (by simp [textsW]) ?_ ?_ ?_ ?_ hbase ?_
  · intro j u hj
    simp only [textsW, List.getElem?_map, Option.map_eq_some_iff] at hj
    obtain ⟨z, hz, rfl⟩ := hj
    exact hm j z hz
  · intro u hu
    simp only [textsW, List.mem_map] at hu
    obtain ⟨z, _, rfl⟩ := hu
    rfl
  · unfold maxLen; omega
  · omega
  · intro v' w' h1 h2 h3
    have e : textsW (l ++ m) = textsW l ++ textsW m := by simp [textsW]
    refine h v' w' (by unfold OwnS; rw [e, List.length_append]; exact h1) ?_ ?_ h2
    · exact (Below.refl base w).grown h2 hbase (fun q hq => own_geS hown q hq)
    · exact ((Below.refl 0 w).grown h2 (Nat.zero_le _) (fun q _ => Nat.zero_le _)).size
theorem leq_text (a b : ByteArray) : (Op.bytesLess a.toList b.toList || a.toList == b.toList) = decide (a.data.toList ≤ b.data.toList) := by
  rw [bytesLess_eq, Lib.toList_data, Lib.toList_data]
  generalize a.data.toList = x
  generalize b.data.toList = y
  by_cases h1 : x < y
  · have : x ≤ y := List.le_of_lt h1
    simp [h1, this]
  · by_cases h2 : x = y
    · subst h2
      simp
    · have : ¬ x ≤ y := fun h => h2 (List.le_antisymm h (List.not_lt.1 h1))
      simp [h1, h2, this]
/-- putS, seen from the place where it is put. -/
theorem putS_at (x : List UInt8) : ∀ (l : List (List UInt8)) (j : Nat), j ≤ l.length → (∀ (i : Nat) y, i < j → l[i]? = some y → y ≤ x) → (∀ y, l[j]? = some y → ¬ y ≤ x) → putS x l = l.take j ++ x :: l.drop j
  | [], j, hj, _, _ => by
    have : j = 0 := by simpa using hj
    subst this; rfl
  | y :: l, 0, _, _, h2 => by
    rw [putS, if_neg (h2 y rfl)]; rfl
  | y :: l, j + 1, hj, h1, h2 => by
    rw [putS, if_pos (h1 0 y (by omega) rfl), putS_at x l j (by simpa using hj) (fun i z hi hz => h1 (i + 1) z (by omega) (by simpa using hz)) (fun z hz => h2 z (by simpa using hz))]
    rfl
theorem hmk_map_take (O : List (List UInt8)) (j : Nat) : (O.take j).map hmk = (O.map hmk).take j := by rw [List.map_take]
theorem hmk_map_drop (O : List (List UInt8)) (j : Nat) : (O.drop j).map hmk = (O.map hmk).drop j := by rw [List.map_drop]
theorem putS_len (x : List UInt8) (l : List (List UInt8)) : (putS x l).length = l.length + 1 := (putS_perm x l).length_eq
theorem sortS_len (l : List (List UInt8)) : (sortS l).length = l.length := (sortS_perm l).length_eq
theorem sorted_snoc (l : List (List UInt8)) (k : Nat) (x : List UInt8) (h : l[k]? = some x) : sortS (l.take (k + 1)) = putS x (sortS (l.take k)) := by
  rw [List.take_add_one, h]
  exact sortS_snoc _ _
theorem OwnS.cap {w : World} {base g n c : Nat} {l : List ByteArray} (h : OwnS w base (.slice (some ⟨g, 0, none⟩) n c) l) : n ≤ c := by
  obtain ⟨_, h1 | ⟨g', c', cur, e, _, _, hc, _⟩⟩ := h
  · exact absurd h1.1 (by simp)
  · simp only [Value.slice.injEq, Option.some.injEq, Addr.mk.injEq, and_true] at e
    obtain ⟨_, rfl, rfl⟩ := e
    exact hc
theorem OwnS.isS {w : World} {base : Nat} {v : Value} {l : List ByteArray} (h : OwnS w base v l) (hl : l ≠ []) : ∃ g c, v = .slice (some ⟨g, 0, none⟩) l.length c := by
  obtain ⟨_, h1 | ⟨g, c, cur, e, _⟩⟩ := h
  · exact absurd (List.eq_nil_of_length_eq_zero h1.2) hl
  · exact ⟨g, c, e⟩
theorem OwnS.cellAt {w : World} {base g n c : Nat} {l : List ByteArray} (h : OwnS w base (.slice (some ⟨g, 0, none⟩) n c) l) (k : Nat) (x : ByteArray) (hk : l[k]? = some x) : w.cell? ⟨g, k, none⟩ = some (.string x) := by
  obtain ⟨a, c', e, ha⟩ := h.shape
  obtain ⟨g', hg, hc⟩ := ha k x hk
  rw [hg] at e
  simp only [Value.slice.injEq, Option.some.injEq, Addr.mk.injEq, and_true] at e
  rw [e.1]; exact hc
set_option maxRecDepth 100000 in
set_option maxHeartbeats 8000000 in
theorem l5Sort_any (l : List (List UInt8)) (v0 : Value) (b0 : Nat) (w : World) (hl : l.length ≤ 6000) (hown : OwnS w b0 v0 (l.map hmk)) :
    Calls Tryz.prog 83 #[v0] w fun e w' => CutRes (sortS l) w.heap.size e w' ∧ Below w.heap.size w w' := by
  obtain ⟨a0, c0, rfl, hcells⟩ := hown.shape
  have HC : Hid (∀ (k : Nat) x, l[k]? = some x → ∃ g, a0 = some ⟨g, 0, none⟩ ∧ g < w.heap.size ∧ w.cell? ⟨g, k, none⟩ = some (.string (hmk x))) := fun k x hx => by
    obtain ⟨g, h1, h2⟩ := hcells k (hmk x) (by rw [List.getElem?_map, hx]; rfl)
    exact ⟨g, h1, block_lt_of_cell h2, h2⟩
  rw [List.length_map]
  clear hown hcells
  go_enter Tryz.func83, Tryz.ntmps83
  go_wp2_with fail
  go_loopw [3, 4] (fun v i wr => ∃ (k : Nat) (g c : Nat), k ≤ l.length ∧ i = .int .i64 (k : Int) ∧ v = .slice (some ⟨g, 0, none⟩) k c ∧ OwnS wr w.heap.size v ((sortS (l.take k)).map hmk) ∧ Below w.heap.size w wr) (fun _ i _ => l.length - (intOf i).toNat)
  case atStart => exact ⟨0, w.heap.size, 0, Nat.zero_le _, rfl, rfl, ownS_made0 w w.heap.size (Nat.le_refl _), (Below.refl _ _).alloc (Nat.le_refl _) _⟩
  case round =>
    obtain ⟨k, g, c, hk, rfl, rfl, ho, hb⟩ := hrel
    obtain ⟨O, hO⟩ : ∃ O, O = sortS (l.take k) := ⟨_, rfl⟩
    rw [← hO] at ho
    have hOl : O.length = k := by rw [hO, sortS_len, List.length_take]; omega
    have HOE : Hid (O = sortS (l.take k)) := hO
    have HO : Hid (OwnS wr w.heap.size (.slice (some ⟨g, 0, none⟩) k c) (O.map hmk)) := ho
    have hzb := hb.size
    have HB : Hid (Below w.heap.size w wr) := hb
    clear ho hO hb
    by_cases hlt : k < l.length
    · obtain ⟨x, hx⟩ : ∃ x, l[k]? = some x := ⟨l[k], List.getElem?_eq_getElem hlt⟩
      obtain ⟨g0, rfl, hg0, hc0⟩ := HC.out k x hx
      have hcx : wr.cell? ⟨g0, k, none⟩ = some (.string (hmk x)) := by rw [HB.out.cell (p := ⟨g0, k, none⟩) hg0]; exact hc0
      have HS : Hid (sortS (l.take (k + 1)) = putS x O) := by show _ = _; rw [HOE.out]; exact sorted_snoc l k x hx
      have gk : (k : Int) < l.length := by omega
      clear HC hx hc0 HOE
      go_wp2_with fail
      obtain ⟨wo, rfl⟩ : ∃ wo : World, wo = wr := ⟨_, rfl⟩
      go_loopw [5] (fun i wr => ∃ (j : Nat), j ≤ k ∧ i = .int .i64 (j : Int) ∧ (∀ (i : Nat) y, i < j → O[i]? = some y → y ≤ x) ∧ Below wo.heap.size wo wr) (fun i _ => k - (intOf i).toNat)
      case atStart => exact ⟨0, Nat.zero_le _, rfl, fun i y hi => by omega, Below.refl _ _⟩
      case round =>
        obtain ⟨j, hj, rfl, hle, hbj⟩ := hrel
        have HLE : Hid (∀ (i : Nat) y, i < j → O[i]? = some y → y ≤ x) := hle
        have HBJ : Hid (Below wo.heap.size wo wr) := hbj
        have HOJ : Hid (OwnS wr w.heap.size (.slice (some ⟨g, 0, none⟩) k c) (O.map hmk)) := HO.out.below hbj
        have hcj : wr.cell? ⟨g0, k, none⟩ = some (.string (hmk x)) := by rw [hbj.cell (p := ⟨g0, k, none⟩) (block_lt_of_cell hcx)]; exact hcx
        clear hle hbj
        by_cases hjk : j < k
        · obtain ⟨y, hy⟩ : ∃ y, O[j]? = some y := ⟨O[j]'(by omega), List.getElem?_eq_getElem _⟩
          have hcy : wr.cell? ⟨g, j, none⟩ = some (.string (hmk y)) := HOJ.out.cellAt j (hmk y) (by rw [List.getElem?_map, hy]; rfl)
          have HQ : Hid (Below w.heap.size w wr) := HB.out.trans (HBJ.out.mono HB.out.size)
          have gj : decide ((j : Int) < (k : Int)) = true := by simp; omega
          by_cases hyx : y ≤ x
          · have LT : (Op.bytesLess (hmk y).toList (hmk x).toList || ((hmk y).toList == (hmk x).toList)) = true := (leq_text (hmk y) (hmk x)).trans (decide_eq_true hyx)
            go_wp2_with fail
            go_quiet (fail)
            go_wp2_with fail
            go_roundw
            case rel => exact ⟨j + 1, by omega, by go_num, fun i z hi hz => by
              by_cases e : i = j
              · subst e
                rw [hy] at hz
                cases hz
                exact hyx
              · exact HLE.out i z (by omega) hz, below_drewN HBJ.out _⟩
            case measure => simp [intOf]; omega
          · have LT : (Op.bytesLess (hmk y).toList (hmk x).toList || ((hmk y).toList == (hmk x).toList)) = false := (leq_text (hmk y) (hmk x)).trans (decide_eq_false hyx)
            have HGT : Hid (∀ y, O[j]? = some y → ¬ y ≤ x) := fun z hz => by rw [hy] at hz; cases hz; exact hyx
            go_wp2_with fail
            go_quiet (fail)
            obtain ⟨X, hX⟩ : ∃ X, X = wr.drewN nq := ⟨_, rfl⟩
            rw [← hX]
            have HX : Hid (Below w.heap.size w X ∧ OwnS X w.heap.size (.slice (some ⟨g, 0, none⟩) k c) (O.map hmk) ∧ X.cell? ⟨g0, k, none⟩ = some (.string (hmk x))) := by
              have hb : Below wr.heap.size wr X := by rw [hX]; exact below_drewN (Below.refl _ _) _
              exact ⟨HQ.out.trans (hb.mono HQ.out.size), HOJ.out.below hb, by rw [hb.cell (p := ⟨g0, k, none⟩) (block_lt_of_cell hcj)]; exact hcj⟩
            have HP : Hid (putS x O = O.take j ++ x :: O.drop j) := putS_at x O j (by omega) HLE.out HGT.out
            clear hX HLE HGT HOJ HBJ HQ hcj hcx HB HO
            have h1 : OwnS (X.alloc (.cells #[] 9)) X.heap.size (.slice (some ⟨X.heap.size, 0, none⟩) 0 0) [] := ownS_made0 X X.heap.size (Nat.le_refl _)
            have h2 : ∀ (i : Nat) z, ((O.map hmk).take j)[i]? = some z → (X.alloc (.cells #[] 9)).cell? ((⟨g, 0, none⟩ : Addr).add i) = some (.string z) := fun i z hz => by
              have hz' : (O.map hmk)[i]? = some z := by
                rw [List.getElem?_take] at hz
                split at hz
                · exact hz
                · cases hz
              have := (HX.out.2.1.below ((Below.refl _ _).alloc (Nat.le_refl _) (.cells #[] 9))).cellAt i z hz'
              rw [show (⟨g, 0, none⟩ : Addr).add i = ⟨g, i, none⟩ from by simp [Addr.add] <;> omega]
              exact this
            have l1 : ((O.map hmk).take j).length = j := by rw [List.length_take, List.length_map]; omega
            have l3 : ((O.map hmk).drop j).length = k - j := by rw [List.length_drop, List.length_map]; omega
            have H1 : Hid (OwnS (X.alloc (.cells #[] 9)) X.heap.size (.slice (some ⟨X.heap.size, 0, none⟩) 0 0) []) := h1
            have H2 : Hid (∀ (i : Nat) z, ((O.map hmk).take j)[i]? = some z → (X.alloc (.cells #[] 9)).cell? ((⟨g, 0, none⟩ : Addr).add i) = some (.string z)) := h2
            have HXA : Hid (Below X.heap.size X (X.alloc (.cells #[] 9))) := (Below.refl _ _).alloc (Nat.le_refl _) _
            have zA : X.heap.size ≤ (X.alloc (.cells #[] 9)).heap.size := HXA.out.size
            clear h1 h2
            have gj0 : (0 : Int) ≤ j := by omega
            have gjk : (j : Int) ≤ k := by omega
            generalize hM1 : (O.map hmk).take j = M1 at *
            generalize hM3 : (O.map hmk).drop j = M3 at *
            have hkc : k ≤ c := HX.out.2.1.cap
            have hjc : ¬ j = c := by omega
            have H3 : Hid (∀ W, Below X.heap.size X W → ∀ (i : Nat) z, M3[i]? = some z → W.cell? ((⟨g, j, none⟩ : Addr).add i) = some (.string z)) := fun W hW i z hz => by
              rw [← hM3, List.getElem?_drop] at hz
              have := (HX.out.2.1.below hW).cellAt (j + i) z hz
              rw [show (⟨g, j, none⟩ : Addr).add i = ⟨g, j + i, none⟩ from by simp [Addr.add] <;> omega]
              exact this
            go_wp2_with (at_builtin; first
              | (refine wpList_append_strs _ rfl (.tmp 31) (.tmp 34) rfl X.heap.size _ [] M1 j l1 ⟨g, 0, none⟩ c rfl rfl H1.out H2.out (by simp; omega) zA ?_; intro v1 w1 HO1 hb1 hz1 hg1; have HB1 : Hid (Below X.heap.size X w1) := HXA.out.trans hb1; have hc1 : w1.cell? ⟨g0, k, none⟩ = some (.string (hmk x)) := by rw [HB1.out.cell (p := ⟨g0, k, none⟩) (block_lt_of_cell HX.out.2.2)]; exact HX.out.2.2)
              | (refine wpList_append_str w1 rfl (.tmp 36) (.tmp 41) rfl X.heap.size v1 ([] ++ M1) (hmk x) rfl rfl HO1 (by simp; omega) HB1.out.size ?_; intro v2 w2 HO2 hb2 hz2; have HB2 : Hid (Below X.heap.size X w2) := HB1.out.trans hb2; have HC2 := H3.out w2 HB2.out)
              | (refine wpList_append_strs w2 rfl (.tmp 43) (.tmp 46) rfl X.heap.size v2 ([] ++ M1 ++ [hmk x]) M3 (k - j) l3 ⟨g, j, none⟩ (c - j) rfl rfl HO2 HC2 (by simp; omega) HB2.out.size ?_; intro v3 w3 HO3 hb3 hz3 hg3; have HB3 : Hid (Below X.heap.size X w3) := HB2.out.trans hb3))
            have HO4 : Hid (OwnS w3 w.heap.size v3 ((sortS (l.take (k + 1))).map hmk)) := by
              have e : (sortS (l.take (k + 1))).map hmk = [] ++ M1 ++ [hmk x] ++ M3 := by
                rw [HS.out, HP.out, List.map_append, List.map_cons, List.map_take, List.map_drop, hM1, hM3]
                simp
              show OwnS _ _ _ _
              rw [e]
              exact HO3.lower HX.out.1.size
            have hl4 : ((sortS (l.take (k + 1))).map hmk).length = k + 1 := by rw [List.length_map, sortS_len, List.length_take]; omega
            obtain ⟨g4, c4, hv4⟩ := HO4.out.isS (fun e => by rw [e] at hl4; simp at hl4)
            rw [hl4] at hv4
            go_roundw
            case rel => exact ⟨k + 1, g4, c4, by omega, by go_num, hv4, HO4.out, HX.out.1.trans (HB3.out.mono HX.out.1.size)⟩
            case measure => simp [intOf]; omega
        · have ej : j = k := by omega
          subst ej
          have HGT : Hid (∀ y, O[j]? = some y → ¬ y ≤ x) := fun z hz => by have := (List.getElem?_eq_some_iff.1 hz).1; omega
          have HQ : Hid (Below w.heap.size w wr) := HB.out.trans (HBJ.out.mono HB.out.size)
          have gj : decide ((j : Int) < (j : Int)) = false := by simp
          go_wp2_with fail
          go_quiet (fail)
          obtain ⟨X, hX⟩ : ∃ X, X = wr.drewN nq := ⟨_, rfl⟩
          rw [← hX]
          have HX : Hid (Below w.heap.size w X ∧ OwnS X w.heap.size (.slice (some ⟨g, 0, none⟩) j c) (O.map hmk) ∧ X.cell? ⟨g0, j, none⟩ = some (.string (hmk x))) := by
            have hb : Below wr.heap.size wr X := by rw [hX]; exact below_drewN (Below.refl _ _) _
            exact ⟨HQ.out.trans (hb.mono HQ.out.size), HOJ.out.below hb, by rw [hb.cell (p := ⟨g0, j, none⟩) (block_lt_of_cell hcj)]; exact hcj⟩
          have HP : Hid (putS x O = O.take j ++ x :: O.drop j) := putS_at x O j (by omega) HLE.out HGT.out
          clear hX HLE HGT HOJ HBJ HQ hcj hcx HB HO
          have h1 : OwnS (X.alloc (.cells #[] 9)) X.heap.size (.slice (some ⟨X.heap.size, 0, none⟩) 0 0) [] := ownS_made0 X X.heap.size (Nat.le_refl _)
          have h2 : ∀ (i : Nat) z, ((O.map hmk).take j)[i]? = some z → (X.alloc (.cells #[] 9)).cell? ((⟨g, 0, none⟩ : Addr).add i) = some (.string z) := fun i z hz => by
            have hz' : (O.map hmk)[i]? = some z := by
              rw [List.getElem?_take] at hz
              split at hz
              · exact hz
              · cases hz
            have := (HX.out.2.1.below ((Below.refl _ _).alloc (Nat.le_refl _) (.cells #[] 9))).cellAt i z hz'
            rw [show (⟨g, 0, none⟩ : Addr).add i = ⟨g, i, none⟩ from by simp [Addr.add] <;> omega]
            exact this
          have l1 : ((O.map hmk).take j).length = j := by rw [List.length_take, List.length_map]; omega
          have l3 : ((O.map hmk).drop j).length = 0 := by rw [List.length_drop, List.length_map]; omega
          have H1 : Hid (OwnS (X.alloc (.cells #[] 9)) X.heap.size (.slice (some ⟨X.heap.size, 0, none⟩) 0 0) []) := h1
          have H2 : Hid (∀ (i : Nat) z, ((O.map hmk).take j)[i]? = some z → (X.alloc (.cells #[] 9)).cell? ((⟨g, 0, none⟩ : Addr).add i) = some (.string z)) := h2
          have HXA : Hid (Below X.heap.size X (X.alloc (.cells #[] 9))) := (Below.refl _ _).alloc (Nat.le_refl _) _
          have zA : X.heap.size ≤ (X.alloc (.cells #[] 9)).heap.size := HXA.out.size
          clear h1 h2
          have gj0 : (0 : Int) ≤ j := by omega
          generalize hM1 : (O.map hmk).take j = M1 at *
          generalize hM3 : (O.map hmk).drop j = M3 at *
          have hkc : j ≤ c := HX.out.2.1.cap
          by_cases hjc : j = c
          · subst hjc
            have H3 : Hid (∀ W, Below X.heap.size X W → ∀ (i : Nat) z, M3[i]? = some z → W.cell? ((⟨g, 0, none⟩ : Addr).add i) = some (.string z)) := fun W hW i z hz => by
              have := (List.getElem?_eq_some_iff.1 hz).1
              omega
            go_wp2_with (at_builtin; first
              | (refine wpList_append_strs _ rfl (.tmp 31) (.tmp 34) rfl X.heap.size _ [] M1 j l1 ⟨g, 0, none⟩ j rfl rfl H1.out H2.out (by simp; omega) zA ?_; intro v1 w1 HO1 hb1 hz1 hg1; have HB1 : Hid (Below X.heap.size X w1) := HXA.out.trans hb1; have hc1 : w1.cell? ⟨g0, j, none⟩ = some (.string (hmk x)) := by rw [HB1.out.cell (p := ⟨g0, j, none⟩) (block_lt_of_cell HX.out.2.2)]; exact HX.out.2.2)
              | (refine wpList_append_str w1 rfl (.tmp 36) (.tmp 41) rfl X.heap.size v1 ([] ++ M1) (hmk x) rfl rfl HO1 (by simp; omega) HB1.out.size ?_; intro v2 w2 HO2 hb2 hz2; have HB2 : Hid (Below X.heap.size X w2) := HB1.out.trans hb2; have HC2 := H3.out w2 HB2.out)
              | (refine wpList_append_strs w2 rfl (.tmp 43) (.tmp 46) rfl X.heap.size v2 ([] ++ M1 ++ [hmk x]) M3 0 l3 ⟨g, 0, none⟩ 0 rfl rfl HO2 HC2 (by simp; omega) HB2.out.size ?_; intro v3 w3 HO3 hb3 hz3 hg3; have HB3 : Hid (Below X.heap.size X w3) := HB2.out.trans hb3))
            have HO4 : Hid (OwnS w3 w.heap.size v3 ((sortS (l.take (j + 1))).map hmk)) := by
              have e : (sortS (l.take (j + 1))).map hmk = [] ++ M1 ++ [hmk x] ++ M3 := by
                rw [HS.out, HP.out, List.map_append, List.map_cons, List.map_take, List.map_drop, hM1, hM3]
                simp
              show OwnS _ _ _ _
              rw [e]
              exact HO3.lower HX.out.1.size
            have hl4 : ((sortS (l.take (j + 1))).map hmk).length = j + 1 := by rw [List.length_map, sortS_len, List.length_take]; omega
            obtain ⟨g4, c4, hv4⟩ := HO4.out.isS (fun e => by rw [e] at hl4; simp at hl4)
            rw [hl4] at hv4
            go_roundw
            case rel => exact ⟨j + 1, g4, c4, by omega, by go_num, hv4, HO4.out, HX.out.1.trans (HB3.out.mono HX.out.1.size)⟩
            case measure => simp [intOf]; omega
          · have H3 : Hid (∀ W, Below X.heap.size X W → ∀ (i : Nat) z, M3[i]? = some z → W.cell? ((⟨g, j, none⟩ : Addr).add i) = some (.string z)) := fun W hW i z hz => by
              rw [← hM3, List.getElem?_drop] at hz
              have := (HX.out.2.1.below hW).cellAt (j + i) z hz
              rw [show (⟨g, j, none⟩ : Addr).add i = ⟨g, j + i, none⟩ from by simp [Addr.add] <;> omega]
              exact this
            go_wp2_with (at_builtin; first
              | (refine wpList_append_strs _ rfl (.tmp 31) (.tmp 34) rfl X.heap.size _ [] M1 j l1 ⟨g, 0, none⟩ c rfl rfl H1.out H2.out (by simp; omega) zA ?_; intro v1 w1 HO1 hb1 hz1 hg1; have HB1 : Hid (Below X.heap.size X w1) := HXA.out.trans hb1; have hc1 : w1.cell? ⟨g0, j, none⟩ = some (.string (hmk x)) := by rw [HB1.out.cell (p := ⟨g0, j, none⟩) (block_lt_of_cell HX.out.2.2)]; exact HX.out.2.2)
              | (refine wpList_append_str w1 rfl (.tmp 36) (.tmp 41) rfl X.heap.size v1 ([] ++ M1) (hmk x) rfl rfl HO1 (by simp; omega) HB1.out.size ?_; intro v2 w2 HO2 hb2 hz2; have HB2 : Hid (Below X.heap.size X w2) := HB1.out.trans hb2; have HC2 := H3.out w2 HB2.out)
              | (refine wpList_append_strs w2 rfl (.tmp 43) (.tmp 46) rfl X.heap.size v2 ([] ++ M1 ++ [hmk x]) M3 0 l3 ⟨g, j, none⟩ (c - j) rfl rfl HO2 HC2 (by simp; omega) HB2.out.size ?_; intro v3 w3 HO3 hb3 hz3 hg3; have HB3 : Hid (Below X.heap.size X w3) := HB2.out.trans hb3))
            have HO4 : Hid (OwnS w3 w.heap.size v3 ((sortS (l.take (j + 1))).map hmk)) := by
              have e : (sortS (l.take (j + 1))).map hmk = [] ++ M1 ++ [hmk x] ++ M3 := by
                rw [HS.out, HP.out, List.map_append, List.map_cons, List.map_take, List.map_drop, hM1, hM3]
                simp
              show OwnS _ _ _ _
              rw [e]
              exact HO3.lower HX.out.1.size
            have hl4 : ((sortS (l.take (j + 1))).map hmk).length = j + 1 := by rw [List.length_map, sortS_len, List.length_take]; omega
            obtain ⟨g4, c4, hv4⟩ := HO4.out.isS (fun e => by rw [e] at hl4; simp at hl4)
            rw [hl4] at hv4
            go_roundw
            case rel => exact ⟨j + 1, g4, c4, by omega, by go_num, hv4, HO4.out, HX.out.1.trans (HB3.out.mono HX.out.1.size)⟩
            case measure => simp [intOf]; omega
    · have ek : k = l.length := by omega
      have gk : ¬ (k : Int) < l.length := by omega
      subst ek
      have HF : Hid (O = sortS l) := by show _ = _; rw [HOE.out, List.take_length]
      clear HC HOE
      go_wp2_with fail
      go_ret
      exact ⟨⟨_, rfl, by rw [← HF.out]; exact HO.out⟩, HB.out⟩
end Go.Proofs.YtmnblligifgcjaaGreatDoor
/-
  Facts of the program as a whole that every card of this seat leans on: each reckoned by the kernel, each by itself.
-/
namespace Go.Proofs.YtmnblligifgcjaaGreatDoor
theorem pf_laid : laidOutB Tryz.prog = true := by kernel_rfl
theorem pf_maps : mapsRowed Tryz.prog = true := by kernel_rfl
theorem pf_stops : (Tryz.prog.stops == []) = true := by kernel_rfl
theorem pf_knobs : (Tryz.prog.stopKnobs == []) = true := by kernel_rfl
theorem pf_heard : Tryz.prog.stopsHeard = true := by kernel_rfl
theorem pf_enter : Tryz.prog.mayEnter = true := by kernel_rfl
theorem pf_prog : Tryz.pinned.checked.prog = Tryz.prog := by kernel_rfl
end Go.Proofs.YtmnblligifgcjaaGreatDoor
/-
  The source of draws: what the model's l1Next does.
-/
namespace Go.Proofs.YtmnblligifgcjaaGreatDoor
open Go.ChangeShapes Go.WideShapes Go.ChangeAt Go.RowKit
/-- Bytes that came in, at a, len of them. -/
def CodeRow (w : World) (B : Nat) (a : Option Addr) (len : Nat) : Prop :=
  len = 0 ∨ ∃ b off, a = some ⟨b, off, none⟩ ∧ b < B ∧ ∃ f : Nat → Int, ∀ i, i < len → w.cell? ⟨b, off + i, none⟩ = some (.int .u8 (f i)) ∧ 0 ≤ f i ∧ f i ≤ 255
/-- A source of draws in block B: the code, and how many draws were made. -/
structure Src (w : World) (B : Nat) (a : Option Addr) (len cap k : Nat) : Prop where
  c0 : w.cell? ⟨B, 0, none⟩ = some (.slice a len cap)
  c1 : w.cell? ⟨B, 1, none⟩ = some (.int .i64 (k : Int))
  f1 : w.frozen? ⟨B, 1, none⟩ = false
  row : CodeRow w B a len
theorem CodeRow.below {w w' : World} {B : Nat} {a : Option Addr} {len : Nat} (h : CodeRow w B a len) (hb : Below B w w') : CodeRow w' B a len := by
  rcases h with h | ⟨b, off, e, hlt, f, hf⟩
  · exact .inl h
  · refine .inr ⟨b, off, e, hlt, f, fun i hi => ?_⟩
    rw [hb.cell (p := ⟨b, off + i, none⟩) hlt]
    exact hf i hi
theorem CodeRow.mono {w : World} {B B' : Nat} {a : Option Addr} {len : Nat} (h : CodeRow w B a len) (hB : B ≤ B') : CodeRow w B' a len := by
  rcases h with h | ⟨b, off, e, hlt, f, hf⟩
  · exact .inl h
  · exact .inr ⟨b, off, e, by omega, f, hf⟩
theorem codeRow_of {W : World} {x : Addr} {len cap : Nat} {zs : List Int} (hl : len ≤ cap) (hz : zs.length = cap) (hcell : ∀ i, i < zs.length → W.cell? (x.add i) = some (.int .u8 (zs.getD i 0))) (hwz : ∀ n ∈ zs, (Lit.int .u8 n).wf = true) : CodeRow W W.heap.size (some x) len := by
  by_cases h0 : len = 0
  · exact .inl h0
  · obtain ⟨b, off, spot⟩ := x
    have hc := hcell 0 (by omega)
    have hspot : spot = none := by simpa [Addr.add] using World.cell?_spot hc
    subst hspot
    have hadd : ∀ i, (⟨b, off, none⟩ : Addr).add i = ⟨b, off + i, none⟩ := fun i => by unfold Addr.add; split <;> simp_all
    rw [hadd] at hc
    refine .inr ⟨b, off, rfl, block_lt_of_cell hc, fun i => zs.getD i 0, fun i hi => ?_⟩
    have hi2 : i < zs.length := by omega
    have h1 := hcell i hi2
    rw [hadd] at h1
    have hm : zs.getD i 0 ∈ zs := by
      rw [List.getD_eq_getElem?_getD, List.getElem?_eq_getElem hi2]
      exact List.getElem_mem hi2
    have h2 := hwz _ hm
    simp only [Lit.wf, Bool.and_eq_true, decide_eq_true_eq] at h2
    exact ⟨h1, h2.1, h2.2⟩
theorem Src.below {w w' : World} {B : Nat} {a : Option Addr} {len cap k : Nat} (h : Src w B a len cap k) (hb : Below (B + 1) w w') : Src w' B a len cap k where
  c0 := by rw [hb.cell (p := ⟨B, 0, none⟩) (Nat.lt_succ_self _)]; exact h.c0
  c1 := by rw [hb.cell (p := ⟨B, 1, none⟩) (Nat.lt_succ_self _)]; exact h.c1
  f1 := by rw [hb.frozen (p := ⟨B, 1, none⟩) (Nat.lt_succ_self _)]; exact h.f1
  row := h.row.below (hb.mono (Nat.le_succ _))
theorem Src.next {w : World} {B : Nat} {a : Option Addr} {len cap k : Nat} (h : Src w B a len cap k) (m : Nat) : Src ((w.setCell ⟨B, 1, none⟩ (.int .i64 ((k : Int) + 1))).drewN m) B a len cap (k + 1) where
  c0 := by
    rw [World.cell?_drewN, World.cell?_setCell_other _ _ _ _ (by intro h; have := congrArg Addr.off h; simp at this)]
    exact h.c0
  c1 := by
    rw [World.cell?_drewN, World.cell?_setCell_same _ _ _ h.c1]
    simp
  f1 := by
    rw [World.frozen?_drewN, World.frozen?_setCell]
    exact h.f1
  row := by
    have hb : Below B w ((w.setCell ⟨B, 1, none⟩ (.int .i64 ((k : Int) + 1))).drewN m) := below_drewN ((Below.refl B w).setCell (Nat.le_refl _) _) m
    exact h.row.below hb
set_option maxHeartbeats 1000000 in
theorem l1Next_empty (w : World) (B : Nat) (a : Option Addr) (cap k : Nat) (n : Int)
    (c0 : w.cell? ⟨B, 0, none⟩ = some (.slice a 0 cap)) (c1 : w.cell? ⟨B, 1, none⟩ = some (.int .i64 (k : Int))) (f1 : w.frozen? ⟨B, 1, none⟩ = false)
    (hk : (k : Int) ≤ 1000000) (hn : 1 ≤ n) (hn2 : n ≤ 1000000) :
    Calls Tryz.prog 44 #[.pointer (some ⟨B, 0, none⟩), .int .i64 n] w fun e w' => e = .returned (.int .i64 ((k : Int) * 7 % n)) ∧ w' = w.setCell ⟨B, 1, none⟩ (.int .i64 ((k : Int) + 1)) := by
  have n0 : ¬ n < 1 := by omega
  have n1 : ¬ n = 0 := by omega
  go_enter Tryz.func44, Tryz.ntmps44
  go_wp2
  go_ret
  exact ⟨rfl, rfl⟩
set_option maxHeartbeats 1000000 in
theorem l1Next_some (w : World) (B : Nat) (b off len cap k : Nat) (n : Int) (hne : b ≠ B) (f : Nat → Int)
    (c0 : w.cell? ⟨B, 0, none⟩ = some (.slice (some ⟨b, off, none⟩) len cap)) (c1 : w.cell? ⟨B, 1, none⟩ = some (.int .i64 (k : Int))) (f1 : w.frozen? ⟨B, 1, none⟩ = false)
    (hk : (k : Int) ≤ 1000000) (hn : 1 ≤ n) (hn2 : n ≤ 1000000) (hl : 0 < len) (hl2 : len ≤ 1048576)
    (hc : ∀ i, i < len → w.cell? ⟨b, off + i, none⟩ = some (.int .u8 (f i)) ∧ 0 ≤ f i ∧ f i ≤ 255) :
    Calls Tryz.prog 44 #[.pointer (some ⟨B, 0, none⟩), .int .i64 n] w fun e w' => (∃ v : Int, 0 ≤ v ∧ v < n ∧ e = .returned (.int .i64 v)) ∧ ∃ m, w' = (w.setCell ⟨B, 1, none⟩ (.int .i64 ((k : Int) + 1))).drewN m := by
  have n0 : ¬ n < 1 := by omega
  have n1 : ¬ n = 0 := by omega
  have l0 : ((len : Int) == 0) = false := by simp; omega
  have l1 : ¬ (len : Int) = 0 := by omega
  have l2 : ¬ len = 0 := by omega
  obtain ⟨r1, e1, hr1⟩ : ∃ r : Nat, (k : Int).tmod (len : Int) = (r : Int) ∧ r < len := ⟨k % len, by rw [Int.tmod_eq_emod_of_nonneg (by omega)]; simp, Nat.mod_lt _ hl⟩
  obtain ⟨r2, e2, hr2⟩ : ∃ r : Nat, ((k : Int) + 1).tmod (len : Int) = (r : Int) ∧ r < len := ⟨(k + 1) % len, by rw [Int.tmod_eq_emod_of_nonneg (by omega)]; simp, Nat.mod_lt _ hl⟩
  obtain ⟨r3, e3, hr3⟩ : ∃ r : Nat, ((k : Int) + 2).tmod (len : Int) = (r : Int) ∧ r < len := ⟨(k + 2) % len, by rw [Int.tmod_eq_emod_of_nonneg (by omega)]; simp, Nat.mod_lt _ hl⟩
  obtain ⟨q1, e4, hq1⟩ : ∃ q : Nat, (k : Int).tdiv (len : Int) = (q : Int) ∧ q ≤ k := ⟨k / len, by rw [Int.tdiv_eq_ediv_of_nonneg (by omega)]; simp, Nat.div_le_self _ _⟩
  obtain ⟨d1, z10, z11⟩ := hc r1 hr1
  obtain ⟨d2, z20, z21⟩ := hc r2 hr2
  obtain ⟨d3, z30, z31⟩ := hc r3 hr3
  generalize f r1 = z1 at *
  generalize f r2 = z2 at *
  generalize f r3 = z3 at *
  have hne2 : ¬ B = b := fun h => hne h.symm
  have hq2 : (q1 : Int) ≤ 1000000 := by omega
  clear hc hq1
  by_cases g1 : 200 < n
  · by_cases g2 : 60000 < n
    · go_enter Tryz.func44, Tryz.ntmps44
      go_wp2
      go_quiet (fail)
      go_wp2
      go_quiet (fail)
      go_wp2
      go_quiet (fail)
      go_wp2
      go_ret
      exact ⟨⟨_, Int.emod_nonneg _ n1, Int.emod_lt_of_pos _ (by omega), rfl⟩, _, rfl⟩
    · go_enter Tryz.func44, Tryz.ntmps44
      go_wp2
      go_quiet (fail)
      go_wp2
      go_quiet (fail)
      go_wp2
      go_ret
      exact ⟨⟨_, Int.emod_nonneg _ n1, Int.emod_lt_of_pos _ (by omega), rfl⟩, _, rfl⟩
  · go_enter Tryz.func44, Tryz.ntmps44
    go_wp2
    go_quiet (fail)
    go_wp2
    go_ret
    exact ⟨⟨_, Int.emod_nonneg _ n1, Int.emod_lt_of_pos _ (by omega), rfl⟩, _, rfl⟩
theorem l1Next_any (w : World) (B : Nat) (a : Option Addr) (len cap k : Nat) (n : Int) (hs : Src w B a len cap k)
    (hk : k ≤ 1000000) (hn : 1 ≤ n) (hn2 : n ≤ 1000000) (hl2 : len ≤ 1048576) :
    Calls Tryz.prog 44 #[.pointer (some ⟨B, 0, none⟩), .int .i64 n] w fun e w' => (∃ v : Int, 0 ≤ v ∧ v < n ∧ e = .returned (.int .i64 v)) ∧ ∃ m, w' = (w.setCell ⟨B, 1, none⟩ (.int .i64 ((k : Int) + 1))).drewN m := by
  by_cases hl : len = 0
  · subst hl
    refine (l1Next_empty w B a cap k n hs.c0 hs.c1 hs.f1 (by omega) hn hn2).mono ?_
    rintro e w' ⟨rfl, rfl⟩
    exact ⟨⟨_, Int.emod_nonneg _ (by omega), Int.emod_lt_of_pos _ (by omega), rfl⟩, 0, rfl⟩
  · rcases hs.row with h | ⟨b, off, rfl, hlt, f, hf⟩
    · exact absurd h hl
    · exact l1Next_some w B b off len cap k n (by omega) f hs.c0 hs.c1 hs.f1 (by omega) hn hn2 (by omega) hl2 hf
end Go.Proofs.YtmnblligifgcjaaGreatDoor
/-
  Picks out of lists, by the source of draws.
-/
namespace Go.Proofs.YtmnblligifgcjaaGreatDoor
open Go.ChangeShapes Go.WideShapes Go.ChangeAt Go.RowKit
set_option maxHeartbeats 1000000 in
theorem l1Chance_any (w : World) (B : Nat) (a : Option Addr) (len cap k : Nat) (n : Int) (hs : Src w B a len cap k)
    (hk : k ≤ 1000000) (hn : 1 ≤ n) (hn2 : n ≤ 1000000) (hl2 : len ≤ 1048576) :
    Calls Tryz.prog 19 #[.pointer (some ⟨B, 0, none⟩), .int .i64 n] w fun e w' => (∃ b : Bool, e = .returned (.bool b)) ∧ ∃ m, w' = (w.setCell ⟨B, 1, none⟩ (.int .i64 ((k : Int) + 1))).drewN m := by
  have HN : Hid (Calls Tryz.prog 44 #[.pointer (some ⟨B, 0, none⟩), .int .i64 n] w fun e w' => (∃ v : Int, 0 ≤ v ∧ v < n ∧ e = .returned (.int .i64 v)) ∧ ∃ m, w' = (w.setCell ⟨B, 1, none⟩ (.int .i64 ((k : Int) + 1))).drewN m) := l1Next_any w B a len cap k n hs hk hn hn2 hl2
  clear hs
  go_enter Tryz.func19, Tryz.ntmps19
  go_wp2_with fail
  refine HN.out.mono ?_
  rintro e w' ⟨⟨v, _, _, rfl⟩, m, rfl⟩
  go_wp2
  go_ret
  exact ⟨⟨_, rfl⟩, _, rfl⟩
set_option maxHeartbeats 1000000 in
theorem l1Pick_any (w : World) (B : Nat) (a : Option Addr) (len cap k : Nat) (hs : Src w B a len cap k) (L : Nat) (xs : List Int) (hL : L ≠ B)
    (n : Nat) (hn : xs.length = n) (hx : ∀ i x, xs[i]? = some x → w.cell? ⟨L, i, none⟩ = some (.int .i64 x)) (hpos : 0 < n) (hlen : n ≤ 1000)
    (hk : k ≤ 1000000) (hl2 : len ≤ 1048576) :
    Calls Tryz.prog 41 #[.pointer (some ⟨B, 0, none⟩), .slice (some ⟨L, 0, none⟩) n n] w fun e w' => (∃ v : Int, v ∈ xs ∧ e = .returned (.int .i64 v)) ∧ ∃ m, w' = (w.setCell ⟨B, 1, none⟩ (.int .i64 ((k : Int) + 1))).drewN m := by
  have HN : Hid (Calls Tryz.prog 44 #[.pointer (some ⟨B, 0, none⟩), .int .i64 (n : Int)] w fun e w' => (∃ v : Int, 0 ≤ v ∧ v < (n : Int) ∧ e = .returned (.int .i64 v)) ∧ ∃ m, w' = (w.setCell ⟨B, 1, none⟩ (.int .i64 ((k : Int) + 1))).drewN m) := l1Next_any w B a len cap k n hs hk (by omega) (by omega) hl2
  have HX : Hid (∀ i x, xs[i]? = some x → w.cell? ⟨L, i, none⟩ = some (.int .i64 x)) := hx
  have HNN : Hid (xs.length = n) := hn
  clear hs hx hn
  go_enter Tryz.func41, Tryz.ntmps41
  go_wp2_with fail
  refine HN.out.mono ?_
  rintro e w' ⟨⟨v, v0, v1, rfl⟩, m, rfl⟩
  obtain ⟨u, rfl⟩ := Int.eq_ofNat_of_zero_le v0
  have hu : u < n := by omega
  have hul : u < xs.length := by have := HNN.out; omega
  have hc : (w.setCell ⟨B, 1, none⟩ (.int .i64 ((k : Int) + 1))).cell? ⟨L, u, none⟩ = some (.int .i64 xs[u]) := by
    rw [World.cell?_setCell_other _ _ _ _ (by intro h; exact hL (congrArg Addr.block h).symm)]
    exact HX.out u _ (List.getElem?_eq_getElem hul)
  have HM : Hid (xs[u] ∈ xs) := List.getElem_mem hul
  generalize xs[u] = x at *
  go_wp2
  go_ret
  exact ⟨⟨_, HM.out, rfl⟩, _, rfl⟩
set_option maxHeartbeats 1000000 in
theorem l1Word_any (w : World) (B : Nat) (a : Option Addr) (len cap k : Nat) (hs : Src w B a len cap k) (L : Nat) (xs : List ByteArray) (hL : L ≠ B)
    (n : Nat) (hn : xs.length = n) (hx : ∀ i x, xs[i]? = some x → w.cell? ⟨L, i, none⟩ = some (.string x)) (hpos : 0 < n) (hlen : n ≤ 1000)
    (hk : k ≤ 1000000) (hl2 : len ≤ 1048576) :
    Calls Tryz.prog 20 #[.pointer (some ⟨B, 0, none⟩), .slice (some ⟨L, 0, none⟩) n n] w fun e w' => (∃ v : ByteArray, v ∈ xs ∧ e = .returned (.string v)) ∧ ∃ m, w' = (w.setCell ⟨B, 1, none⟩ (.int .i64 ((k : Int) + 1))).drewN m := by
  have HN : Hid (Calls Tryz.prog 44 #[.pointer (some ⟨B, 0, none⟩), .int .i64 (n : Int)] w fun e w' => (∃ v : Int, 0 ≤ v ∧ v < (n : Int) ∧ e = .returned (.int .i64 v)) ∧ ∃ m, w' = (w.setCell ⟨B, 1, none⟩ (.int .i64 ((k : Int) + 1))).drewN m) := l1Next_any w B a len cap k n hs hk (by omega) (by omega) hl2
  have HX : Hid (∀ i x, xs[i]? = some x → w.cell? ⟨L, i, none⟩ = some (.string x)) := hx
  have HNN : Hid (xs.length = n) := hn
  clear hs hx hn
  go_enter Tryz.func20, Tryz.ntmps20
  go_wp2_with fail
  refine HN.out.mono ?_
  rintro e w' ⟨⟨v, v0, v1, rfl⟩, m, rfl⟩
  obtain ⟨u, rfl⟩ := Int.eq_ofNat_of_zero_le v0
  have hu : u < n := by omega
  have hul : u < xs.length := by have := HNN.out; omega
  have hc : (w.setCell ⟨B, 1, none⟩ (.int .i64 ((k : Int) + 1))).cell? ⟨L, u, none⟩ = some (.string xs[u]) := by
    rw [World.cell?_setCell_other _ _ _ _ (by intro h; exact hL (congrArg Addr.block h).symm)]
    exact HX.out u _ (List.getElem?_eq_getElem hul)
  have HM : Hid (xs[u] ∈ xs) := List.getElem_mem hul
  generalize xs[u] = x at *
  go_wp2
  go_ret
  exact ⟨⟨_, HM.out, rfl⟩, _, rfl⟩
end Go.Proofs.YtmnblligifgcjaaGreatDoor
/-
  The source made; texts drawn.
-/
namespace Go.Proofs.YtmnblligifgcjaaGreatDoor
open Go.ChangeShapes Go.WideShapes Go.ChangeAt Go.RowKit
theorem Src.stepped {w w' : World} {B : Nat} {a : Option Addr} {len cap k : Nat} (hs : Src w B a len cap k) (h : ∃ m, w' = (w.setCell ⟨B, 1, none⟩ (.int .i64 ((k : Int) + 1))).drewN m) : Src w' B a len cap (k + 1) ∧ Below B w w' := by
  obtain ⟨m, rfl⟩ := h
  exact ⟨hs.next m, below_drewN ((Below.refl B w).setCell (Nat.le_refl _) _) m⟩
theorem Src.lt {w : World} {B : Nat} {a : Option Addr} {len cap k : Nat} (hs : Src w B a len cap k) : B < w.heap.size := block_lt_of_cell hs.c0
theorem Src.alloc {w : World} {B : Nat} {a : Option Addr} {len cap k : Nat} (hs : Src w B a len cap k) (o : Obj) : Src (w.alloc o) B a len cap k :=
  hs.below ((Below.refl _ _).alloc hs.lt _)
theorem Src.drew {w : World} {B : Nat} {a : Option Addr} {len cap k : Nat} (hs : Src w B a len cap k) : Src w.drew B a len cap k := ⟨hs.c0, hs.c1, hs.f1, hs.row⟩
theorem l1Next_s (w : World) (B : Nat) (a : Option Addr) (len cap k : Nat) (n : Int) (hs : Src w B a len cap k)
    (hk : k ≤ 1000000) (hn : 1 ≤ n) (hn2 : n ≤ 1000000) (hl2 : len ≤ 1048576) :
    Calls Tryz.prog 44 #[.pointer (some ⟨B, 0, none⟩), .int .i64 n] w fun e w' => (∃ v : Int, 0 ≤ v ∧ v < n ∧ e = .returned (.int .i64 v)) ∧ Src w' B a len cap (k + 1) ∧ Below B w w' :=
  (l1Next_any w B a len cap k n hs hk hn hn2 hl2).mono fun _ _ ⟨h1, h2⟩ => ⟨h1, hs.stepped h2⟩
theorem l1Chance_s (w : World) (B : Nat) (a : Option Addr) (len cap k : Nat) (n : Int) (hs : Src w B a len cap k)
    (hk : k ≤ 1000000) (hn : 1 ≤ n) (hn2 : n ≤ 1000000) (hl2 : len ≤ 1048576) :
    Calls Tryz.prog 19 #[.pointer (some ⟨B, 0, none⟩), .int .i64 n] w fun e w' => (∃ b : Bool, e = .returned (.bool b)) ∧ Src w' B a len cap (k + 1) ∧ Below B w w' :=
  (l1Chance_any w B a len cap k n hs hk hn hn2 hl2).mono fun _ _ ⟨h1, h2⟩ => ⟨h1, hs.stepped h2⟩
/-- A pick out of a list that was just laid behind the world w0. -/
theorem l1Pick_s (w0 : World) (B : Nat) (a : Option Addr) (len cap k : Nat) (hs : Src w0 B a len cap k) (xs : List Int) (n : Nat) (hn : xs.length = n) (hpos : 0 < n) (hlen : n ≤ 1000)
    (hk : k ≤ 1000000) (hl2 : len ≤ 1048576) :
    Calls Tryz.prog 41 #[.pointer (some ⟨B, 0, none⟩), .slice (some ⟨w0.heap.size, 0, none⟩) n n] (w0.alloc (.cells (xs.map (Value.int .i64)).toArray 2)) fun e w' => (∃ v : Int, v ∈ xs ∧ e = .returned (.int .i64 v)) ∧ Src w' B a len cap (k + 1) ∧ Below B w0 w' := by
  have hlt := hs.lt
  refine (l1Pick_any _ B a len cap k (hs.alloc _) w0.heap.size xs (by omega) n hn ?_ hpos hlen hk hl2).mono fun _ w' ⟨h1, h2⟩ => ⟨h1, ?_⟩
  · intro i x hx
    rw [World.cell?_alloc_mark]
    simp [hx]
  · obtain ⟨s, b⟩ := (hs.alloc _).stepped h2
    exact ⟨s, ((Below.refl B w0).alloc (Nat.le_of_lt hlt) _).trans b⟩
theorem l1Word_s (w0 : World) (B : Nat) (a : Option Addr) (len cap k : Nat) (hs : Src w0 B a len cap k) (xs : List ByteArray) (n : Nat) (hn : xs.length = n) (hpos : 0 < n) (hlen : n ≤ 1000)
    (hk : k ≤ 1000000) (hl2 : len ≤ 1048576) :
    Calls Tryz.prog 20 #[.pointer (some ⟨B, 0, none⟩), .slice (some ⟨w0.heap.size, 0, none⟩) n n] (w0.alloc (.cells (xs.map Value.string).toArray 9)) fun e w' => (∃ v : ByteArray, v ∈ xs ∧ e = .returned (.string v)) ∧ Src w' B a len cap (k + 1) ∧ Below B w0 w' := by
  have hlt := hs.lt
  refine (l1Word_any _ B a len cap k (hs.alloc _) w0.heap.size xs (by omega) n hn ?_ hpos hlen hk hl2).mono fun _ w' ⟨h1, h2⟩ => ⟨h1, ?_⟩
  · intro i x hx
    rw [World.cell?_alloc_mark]
    simp [hx]
  · obtain ⟨s, b⟩ := (hs.alloc _).stepped h2
    exact ⟨s, ((Below.refl B w0).alloc (Nat.le_of_lt hlt) _).trans b⟩
set_option maxHeartbeats 400000 in
theorem l1Source_any (w : World) (a : Option Addr) (len cap : Nat) (hc : CodeRow w w.heap.size a len) :
    Calls Tryz.prog 16 #[.slice a len cap] w fun e w' => e = .returned (.pointer (some ⟨w.heap.size, 0, none⟩)) ∧ Src w' w.heap.size a len cap 0 ∧ Below w.heap.size w w' := by
  have HC : Hid (CodeRow w w.heap.size a len) := hc
  clear hc
  go_enter Tryz.func16, Tryz.ntmps16
  go_wp2
  go_ret
  have hb : Below w.heap.size w (w.alloc (.cells #[.slice a len cap, .int .i64 0] 76)) := (Below.refl _ _).alloc (Nat.le_refl _) _
  refine ⟨rfl, ⟨by simp, by simp, by simp, HC.out.below hb⟩, hb⟩
set_option maxHeartbeats 1000000 in
theorem l1Long_any (w : World) (B : Nat) (a : Option Addr) (len cap k : Nat) (hs : Src w B a len cap k) (t : ByteArray) (ht : t.size ≤ 1001)
    (hk : k ≤ 100000) (hl2 : len ≤ 1048576) :
    Calls Tryz.prog 45 #[.pointer (some ⟨B, 0, none⟩), .string t] w fun e w' => (∃ r : ByteArray, r.size ≤ 1001 ∧ e = .returned (.string r)) ∧ (∃ k', k' ≤ k + 1002 ∧ Src w' B a len cap k') ∧ Below B w w' := by
  have HS : Hid (Src w B a len cap k) := hs
  clear hs
  go_enter Tryz.func45, Tryz.ntmps45
  go_wp2_with fail
  go_loopw [1] (fun x wr => ∃ (r : ByteArray) (j : Nat), x = .string r ∧ r.size = t.size + j ∧ r.size ≤ 1001 ∧ Src wr B a len cap (k + j) ∧ Below B w wr) (fun x _ => 1001 - (match x with | .string r => r.size | _ => 0))
  case atStart => exact ⟨t, 0, rfl, rfl, ht, HS.out, Below.refl _ _⟩
  case round =>
    obtain ⟨r, j, rfl, hr1, hr2, hsr, hb⟩ := hrel
    have HR : Hid (Src wr B a len cap (k + j)) := hsr
    have HJ : Hid (r.size = t.size + j) := hr1
    have hj : j ≤ 1001 := by omega
    clear hsr HS hr1
    go_wp2_with fail
    refine (l1Pick_s _ B a len cap (k + j) HR.out [1000, 1001] 2 rfl (by omega) (by omega) (by omega) hl2).mono ?_
    rintro e w2 ⟨⟨v, hv, rfl⟩, hs2, hb2⟩
    have HS2 : Hid (Src w2 B a len cap (k + j + 1)) := hs2
    have hv1 : 1000 ≤ v ∧ v ≤ 1001 := by simp at hv; omega
    obtain ⟨v0, v1⟩ := hv1
    clear hs2 HR hv
    by_cases hlt : (r.size : Int) < v
    · have hadd := fun w => run_string_add_sum (P := Tryz.prog) (w := w) r ⟨#[32]⟩ (by have : (⟨#[32]⟩ : ByteArray).size = 1 := rfl; omega)
      have HZ : Hid ((r ++ (⟨#[32]⟩ : ByteArray)).size = r.size + 1) := by show _ = _; simp [ByteArray.size_append]; rfl
      generalize r ++ (⟨#[32]⟩ : ByteArray) = r' at *
      go_wp2_with fail
      go_roundw
      case rel => exact ⟨r', j + 1, rfl, by have := HZ.out; have := HJ.out; omega, by have := HZ.out; omega, HS2.out, hb.trans hb2⟩
      case measure => have := HZ.out; simp; omega
    · go_wp2_with fail
      go_ret
      exact ⟨⟨r, hr2, rfl⟩, ⟨k + j + 1, by omega, HS2.out⟩, hb.trans hb2⟩
end Go.Proofs.YtmnblligifgcjaaGreatDoor
/-
  All that was there, but for one block, is as it was.
-/
namespace Go.Proofs.YtmnblligifgcjaaGreatDoor
open Go.ChangeShapes Go.WideShapes Go.ChangeAt Go.RowKit
/-- All that was there, but for block B, is as it was. -/
structure Apart (B : Nat) (w w' : World) : Prop where
  size : w.heap.size ≤ w'.heap.size
  cell : ∀ b o, b < w.heap.size → b ≠ B → w'.cell? ⟨b, o, none⟩ = w.cell? ⟨b, o, none⟩
  frozen : ∀ b o, b < w.heap.size → b ≠ B → w'.frozen? ⟨b, o, none⟩ = w.frozen? ⟨b, o, none⟩
theorem Apart.refl (B : Nat) (w : World) : Apart B w w := ⟨Nat.le_refl _, fun _ _ _ _ => rfl, fun _ _ _ _ => rfl⟩
theorem Apart.trans {B : Nat} {w w1 w2 : World} (h : Apart B w w1) (k : Apart B w1 w2) : Apart B w w2 :=
  ⟨Nat.le_trans h.size k.size, fun b o hb hn => by rw [k.cell b o (Nat.lt_of_lt_of_le hb h.size) hn, h.cell b o hb hn], fun b o hb hn => by rw [k.frozen b o (Nat.lt_of_lt_of_le hb h.size) hn, h.frozen b o hb hn]⟩
theorem Apart.below {B : Nat} {w w' : World} (h : Below w.heap.size w w') : Apart B w w' :=
  ⟨h.size, fun b o hb _ => h.cell (p := ⟨b, o, none⟩) hb, fun b o hb _ => h.frozen (p := ⟨b, o, none⟩) hb⟩
theorem Apart.alloc (B : Nat) (w : World) (o : Obj) : Apart B w (w.alloc o) := .below ((Below.refl _ _).alloc (Nat.le_refl _) _)
theorem Apart.set (B o : Nat) (w : World) (v : Value) : Apart B w (w.setCell ⟨B, o, none⟩ v) := by
  refine ⟨by simp, fun b o' _ hn => ?_, fun b o' _ hn => ?_⟩
  · rw [World.cell?_setCell_other _ _ _ _ (by intro h; have := congrArg Addr.block h; simp at this; omega)]
  · rw [World.frozen?_setCell]
end Go.Proofs.YtmnblligifgcjaaGreatDoor
/-
  Draws, and what lies apart from the source of draws.
-/
namespace Go.Proofs.YtmnblligifgcjaaGreatDoor
open Go.ChangeShapes Go.WideShapes Go.ChangeAt Go.RowKit
theorem Apart.stepped {B : Nat} {w w' : World} {v : Value} (h : ∃ m, w' = (w.setCell ⟨B, 1, none⟩ v).drewN m) : Apart B w w' := by
  obtain ⟨m, rfl⟩ := h
  refine ⟨by simp, fun b o _ hn => ?_, fun b o _ hn => ?_⟩
  · rw [World.cell?_drewN, World.cell?_setCell_other _ _ _ _ (by intro h; have := congrArg Addr.block h; simp at this; omega)]
  · rw [World.frozen?_drewN, World.frozen?_setCell]
theorem l1Next_a (w : World) (B : Nat) (a : Option Addr) (len cap k : Nat) (n : Int) (hs : Src w B a len cap k)
    (hk : k ≤ 1000000) (hn : 1 ≤ n) (hn2 : n ≤ 1000000) (hl2 : len ≤ 1048576) :
    Calls Tryz.prog 44 #[.pointer (some ⟨B, 0, none⟩), .int .i64 n] w fun e w' => (∃ v : Int, 0 ≤ v ∧ v < n ∧ e = .returned (.int .i64 v)) ∧ Src w' B a len cap (k + 1) ∧ Below B w w' ∧ Apart B w w' :=
  (l1Next_any w B a len cap k n hs hk hn hn2 hl2).mono fun _ _ ⟨h1, h2⟩ => ⟨h1, (hs.stepped h2).1, (hs.stepped h2).2, .stepped h2⟩
theorem l1Chance_a (w : World) (B : Nat) (a : Option Addr) (len cap k : Nat) (n : Int) (hs : Src w B a len cap k)
    (hk : k ≤ 1000000) (hn : 1 ≤ n) (hn2 : n ≤ 1000000) (hl2 : len ≤ 1048576) :
    Calls Tryz.prog 19 #[.pointer (some ⟨B, 0, none⟩), .int .i64 n] w fun e w' => (∃ b : Bool, e = .returned (.bool b)) ∧ Src w' B a len cap (k + 1) ∧ Below B w w' ∧ Apart B w w' :=
  (l1Chance_any w B a len cap k n hs hk hn hn2 hl2).mono fun _ _ ⟨h1, h2⟩ => ⟨h1, (hs.stepped h2).1, (hs.stepped h2).2, .stepped h2⟩
theorem l1Pick_a (w0 : World) (B : Nat) (a : Option Addr) (len cap k : Nat) (hs : Src w0 B a len cap k) (xs : List Int) (n : Nat) (hn : xs.length = n) (hpos : 0 < n) (hlen : n ≤ 1000)
    (hk : k ≤ 1000000) (hl2 : len ≤ 1048576) :
    Calls Tryz.prog 41 #[.pointer (some ⟨B, 0, none⟩), .slice (some ⟨w0.heap.size, 0, none⟩) n n] (w0.alloc (.cells (xs.map (Value.int .i64)).toArray 2)) fun e w' => (∃ v : Int, v ∈ xs ∧ e = .returned (.int .i64 v)) ∧ Src w' B a len cap (k + 1) ∧ Below B w0 w' ∧ Apart B w0 w' := by
  have hlt := hs.lt
  refine (l1Pick_any _ B a len cap k (hs.alloc _) w0.heap.size xs (by omega) n hn ?_ hpos hlen hk hl2).mono fun _ w' ⟨h1, h2⟩ => ⟨h1, ?_⟩
  · intro i x hx
    rw [World.cell?_alloc_mark]
    simp [hx]
  · obtain ⟨s, b⟩ := (hs.alloc _).stepped h2
    exact ⟨s, ((Below.refl B w0).alloc (Nat.le_of_lt hlt) _).trans b, (Apart.alloc B w0 _).trans (.stepped h2)⟩
theorem l1Word_a (w0 : World) (B : Nat) (a : Option Addr) (len cap k : Nat) (hs : Src w0 B a len cap k) (xs : List ByteArray) (n : Nat) (hn : xs.length = n) (hpos : 0 < n) (hlen : n ≤ 1000)
    (hk : k ≤ 1000000) (hl2 : len ≤ 1048576) :
    Calls Tryz.prog 20 #[.pointer (some ⟨B, 0, none⟩), .slice (some ⟨w0.heap.size, 0, none⟩) n n] (w0.alloc (.cells (xs.map Value.string).toArray 9)) fun e w' => (∃ v : ByteArray, v ∈ xs ∧ e = .returned (.string v)) ∧ Src w' B a len cap (k + 1) ∧ Below B w0 w' ∧ Apart B w0 w' := by
  have hlt := hs.lt
  refine (l1Word_any _ B a len cap k (hs.alloc _) w0.heap.size xs (by omega) n hn ?_ hpos hlen hk hl2).mono fun _ w' ⟨h1, h2⟩ => ⟨h1, ?_⟩
  · intro i x hx
    rw [World.cell?_alloc_mark]
    simp [hx]
  · obtain ⟨s, b⟩ := (hs.alloc _).stepped h2
    exact ⟨s, ((Below.refl B w0).alloc (Nat.le_of_lt hlt) _).trans b, (Apart.alloc B w0 _).trans (.stepped h2)⟩
end Go.Proofs.YtmnblligifgcjaaGreatDoor
/-
  Head lines that the call itself grows.
-/
namespace Go.Proofs.YtmnblligifgcjaaGreatDoor
open Go.ChangeShapes Go.WideShapes Go.ChangeAt Go.RowKit
def hdrW (r : Hdr) : List Value := [.string r.name, .string r.value]
def hdrsW (l : List Hdr) : List Value := l.flatMap hdrW
theorem hdrsW_len (l : List Hdr) : (hdrsW l).length = l.length * 2 := by
  induction l with
  | nil => rfl
  | cons r l ih => simp only [hdrsW, List.flatMap_cons, List.length_append, List.length_cons] at ih ⊢; rw [ih]; simp [hdrW]; omega
theorem hdrsW_at (l : List Hdr) : ∀ (i : Nat) r, l[i]? = some r → (hdrsW l)[i * 2]? = some (.string r.name) ∧ (hdrsW l)[i * 2 + 1]? = some (.string r.value) := by
  induction l with
  | nil => intro i r hr; simp at hr
  | cons x l ih =>
    intro i r hr
    have e : hdrsW (x :: l) = .string x.name :: .string x.value :: hdrsW l := by simp [hdrsW, hdrW]
    rw [e]
    cases i with
    | zero => simp at hr; subst hr; simp
    | succ i =>
      have := ih i r (by simpa using hr)
      rw [show (i + 1) * 2 = i * 2 + 1 + 1 from by omega]
      simpa using this
/-- v, nil or not, holds the items l in a row of the call's own, from block base on. -/
def OwnH (w : World) (base : Nat) (v : Value) (l : List Hdr) : Prop := w.ownsRow base 51 2 v l.length (hdrsW l)
theorem OwnH.nil (w : World) (base : Nat) : OwnH w base (.slice none 0 0) [] := World.ownsRow_nil _ _ _ _
theorem OwnH.made0 (w : World) (base : Nat) (hb : base ≤ w.heap.size) : OwnH (w.alloc (.cells #[] 51)) base (.slice (some ⟨w.heap.size, 0, none⟩) 0 0) [] := World.ownsRow_made w #[] 0 hb (by unfold maxLen; omega) rfl
theorem OwnH.below {w w' : World} {base : Nat} {v : Value} {l : List Hdr} (h : OwnH w base v l) (hb : Below w.heap.size w w') : OwnH w' base v l := by
  obtain ⟨h1, h2⟩ := h
  refine ⟨h1, ?_⟩
  rcases h2 with h2 | ⟨g, c, cur, e, hg, hh, hrest⟩
  · exact .inl h2
  · exact .inr ⟨g, c, cur, e, hg, by rw [hb.block g (Array.getElem?_eq_some_iff.1 hh).1]; exact hh, hrest⟩
theorem OwnH.lower {w : World} {b0 base : Nat} {v : Value} {l : List Hdr} (h : OwnH w base v l) (hb : b0 ≤ base) : OwnH w b0 v l := by
  obtain ⟨h1, h2⟩ := h
  refine ⟨h1, ?_⟩
  rcases h2 with h2 | ⟨g, c, cur, e, hg, hrest⟩
  · exact .inl h2
  · exact .inr ⟨g, c, cur, e, by omega, hrest⟩
theorem OwnH.at {w : World} {base : Nat} {v : Value} {l : List Hdr} (h : OwnH w base v l) : ∃ a c, v = .slice a l.length c ∧ HdsIn w a l := by
  have h0 := h
  obtain ⟨_, h1 | ⟨g, c, cur, rfl, _⟩⟩ := h
  · have e : l = [] := List.eq_nil_of_length_eq_zero h1.2
    exact ⟨none, 0, by rw [h1.1, e]; rfl, .inl e⟩
  · refine ⟨_, c, rfl, .inr ⟨g, 0, rfl, fun i r hr => ?_⟩⟩
    have hi := (List.getElem?_eq_some_iff.1 hr).1
    obtain ⟨a1, a3⟩ := hdrsW_at l i r hr
    have c1 := World.ownsRow.cellAt h0 (i * 2) (by omega)
    have c3 := World.ownsRow.cellAt h0 (i * 2 + 1) (by omega)
    exact ⟨by rw [Nat.zero_add, c1, a1], by rw [Nat.zero_add, c3, a3]⟩
theorem own_geH {w : World} {base : Nat} {e : TypeId} {size : Nat} {v : Value} {n : Nat} {xs : List Value} (h : w.ownsRow base e size v n xs) (q : Nat) (hq : v.ownBlock = some q) : base ≤ q := by
  obtain ⟨_, h | ⟨g, c, cur, rfl, hg, _⟩⟩ := h
  · rw [h.1] at hq; cases hq
  · simp only [Value.ownBlock, Option.some.injEq] at hq; omega
theorem own_apartH {w : World} {base base' : Nat} {v pv : Value} {l : List Hdr} {L : List ByteArray} (hp : OwnS w base' pv L) (hv : OwnH w base v l) : pv.ownBlock = none ∨ pv.ownBlock ≠ v.ownBlock := by
  obtain ⟨_, hp | ⟨g, c, cur, rfl, _, hh, _⟩⟩ := hp
  · left; rw [hp.1]; rfl
  · right
    obtain ⟨_, hv | ⟨g2, c2, cur2, rfl, _, hh2, _⟩⟩ := hv
    · rw [hv.1]; simp [Value.ownBlock]
    · simp only [Value.ownBlock, ne_eq, Option.some.injEq]
      rintro rfl
      rw [hh] at hh2
      simp at hh2
theorem wpList_append_hdr {ops : Array Oper} {rest : List Oper} {o : Oper} {a : Act} {Q : Exit → Act → World → Prop} (w : World) (hgd : o.guard = none) (s x : Operand)
    (ho : o.op = .call { callee := .builtin .append, args := #[s, x], argTypes := #[24, 24] }) (base : Nat) (v : Value) (l : List Hdr) (n : ByteArray) (z : ByteArray)
    (hs : a.eval s = v) (hx : a.eval x = .slice (some ⟨w.heap.size, 0, none⟩) 1 1) (hown : OwnH w base v l) (hl : l.length ≤ 1000000) (hbase : base ≤ w.heap.size)
    (h : ∀ v' w', OwnH w' base v' (l ++ [⟨n, z⟩]) → Below base w w' → w.heap.size ≤ w'.heap.size → (∀ base' pv L, OwnS w base' pv L → OwnS w' base' pv L) → wpList Tryz.prog ops Q rest (a.put o.dst v') w') :
    wpList Tryz.prog ops Q (o :: rest) a (w.alloc (.cells #[.string n, .string z] 51)) := by
  obtain ⟨i0, hi, hz0, hz1, hz2⟩ := info_parts infoHeader
  refine wpList_append_own _ hgd s x 24 ho base 51 i0 (.agg #[.string ⟨#[]⟩, .string ⟨#[]⟩]) 2 32 Tryz.underlying24 hi hz0 hz1 hz2 rfl (by decide) v l.length (hdrsW l) hs (World.ownsRow.alloc hown _) ⟨w.heap.size, 0, none⟩ 1 1 [.string n, .string z] hx rfl ?_ ?_ ?_ ?_ ?_ ?_
  · intro j u hj
    match j, hj with
    | 0, hj => simp at hj; subst hj; simp [Addr.add]
    | 1, hj => simp at hj; subst hj; simp [Addr.add]
  · intro u hu; simp at hu; rcases hu with rfl | rfl <;> rfl
  · unfold maxLen; omega
  · omega
  · simp; omega
  · intro v' w' h1 h2 h3
    have e : hdrsW (l ++ [⟨n, z⟩]) = hdrsW l ++ [.string n, .string z] := by simp [hdrsW, hdrW]
    refine h v' w' (by unfold OwnH; rw [e, List.length_append]; exact h1) ?_ ?_ ?_
    · exact ((Below.refl base w).alloc hbase _).grown h2 (by simp; omega) (fun q hq => own_geH hown q hq)
    · have hb := ((Below.refl 0 w).alloc (Nat.zero_le _) (.cells #[.string n, .string z] 51)).grown h2 (Nat.zero_le _) (fun q _ => Nat.zero_le _)
      exact hb.size
    · intro base' pv L hp
      exact World.ownsRow.kept (World.ownsRow.alloc hp _) h2 (own_apartH hp hown)
end Go.Proofs.YtmnblligifgcjaaGreatDoor
/-
  Draws, and the blocks apart from the source of draws.
-/
namespace Go.Proofs.YtmnblligifgcjaaGreatDoor
open Go.ChangeShapes Go.WideShapes Go.ChangeAt Go.RowKit
structure ApartH (B : Nat) (w w' : World) : Prop where
  size : w.heap.size ≤ w'.heap.size
  block : ∀ b, b < w.heap.size → b ≠ B → w'.heap[b]? = w.heap[b]?
theorem ApartH.refl (B : Nat) (w : World) : ApartH B w w := ⟨Nat.le_refl _, fun _ _ _ => rfl⟩
theorem ApartH.trans {B : Nat} {w w1 w2 : World} (h : ApartH B w w1) (k : ApartH B w1 w2) : ApartH B w w2 :=
  ⟨Nat.le_trans h.size k.size, fun b hb hn => by rw [k.block b (Nat.lt_of_lt_of_le hb h.size) hn, h.block b hb hn]⟩
theorem ApartH.below {B : Nat} {w w' : World} (h : Below w.heap.size w w') : ApartH B w w' := ⟨h.size, fun b hb _ => h.block b hb⟩
theorem ApartH.alloc (B : Nat) (w : World) (o : Obj) : ApartH B w (w.alloc o) := .below ((Below.refl _ _).alloc (Nat.le_refl _) _)
theorem setCell_block {w : World} {a : Addr} {v : Value} {b : Nat} (h : b ≠ a.block) : (w.setCell a v).heap[b]? = w.heap[b]? := by
  unfold World.setCell
  simp only [Array.getElem?_modify]
  rw [if_neg (fun k => h k.symm)]
theorem ApartH.stepped {B : Nat} {w w' : World} {v : Value} (h : ∃ m, w' = (w.setCell ⟨B, 1, none⟩ v).drewN m) : ApartH B w w' := by
  obtain ⟨m, rfl⟩ := h
  refine ⟨by simp, fun b _ hn => ?_⟩
  have e : ((w.setCell ⟨B, 1, none⟩ v).drewN m).heap = (w.setCell ⟨B, 1, none⟩ v).heap := by simp
  rw [e, setCell_block hn]
theorem ApartH.cells {B : Nat} {w w' : World} (h : ApartH B w w') : Apart B w w' := by
  refine ⟨h.size, fun b o hb hn => ?_, fun b o hb hn => ?_⟩
  · have := h.block b hb hn
    simp only [World.cell?, this]
  · have := h.block b hb hn
    simp only [World.frozen?, this]
theorem OwnH.apart {B : Nat} {w w' : World} {base : Nat} {v : Value} {l : List Hdr} (h : OwnH w base v l) (ha : ApartH B w w') (hB : B < base) : OwnH w' base v l := by
  obtain ⟨h1, h2⟩ := h
  refine ⟨h1, ?_⟩
  rcases h2 with h2 | ⟨g, c, cur, e, hg, hh, hrest⟩
  · exact .inl h2
  · exact .inr ⟨g, c, cur, e, hg, by rw [ha.block g (Array.getElem?_eq_some_iff.1 hh).1 (by omega)]; exact hh, hrest⟩
theorem l1Next_h (w : World) (B : Nat) (a : Option Addr) (len cap k : Nat) (n : Int) (hs : Src w B a len cap k)
    (hk : k ≤ 1000000) (hn : 1 ≤ n) (hn2 : n ≤ 1000000) (hl2 : len ≤ 1048576) :
    Calls Tryz.prog 44 #[.pointer (some ⟨B, 0, none⟩), .int .i64 n] w fun e w' => (∃ v : Int, 0 ≤ v ∧ v < n ∧ e = .returned (.int .i64 v)) ∧ Src w' B a len cap (k + 1) ∧ Below B w w' ∧ ApartH B w w' :=
  (l1Next_any w B a len cap k n hs hk hn hn2 hl2).mono fun _ _ ⟨h1, h2⟩ => ⟨h1, (hs.stepped h2).1, (hs.stepped h2).2, .stepped h2⟩
theorem l1Chance_h (w : World) (B : Nat) (a : Option Addr) (len cap k : Nat) (n : Int) (hs : Src w B a len cap k)
    (hk : k ≤ 1000000) (hn : 1 ≤ n) (hn2 : n ≤ 1000000) (hl2 : len ≤ 1048576) :
    Calls Tryz.prog 19 #[.pointer (some ⟨B, 0, none⟩), .int .i64 n] w fun e w' => (∃ b : Bool, e = .returned (.bool b)) ∧ Src w' B a len cap (k + 1) ∧ Below B w w' ∧ ApartH B w w' :=
  (l1Chance_any w B a len cap k n hs hk hn hn2 hl2).mono fun _ _ ⟨h1, h2⟩ => ⟨h1, (hs.stepped h2).1, (hs.stepped h2).2, .stepped h2⟩
theorem l1Pick_h (w0 : World) (B : Nat) (a : Option Addr) (len cap k : Nat) (hs : Src w0 B a len cap k) (xs : List Int) (n : Nat) (hn : xs.length = n) (hpos : 0 < n) (hlen : n ≤ 1000)
    (hk : k ≤ 1000000) (hl2 : len ≤ 1048576) :
    Calls Tryz.prog 41 #[.pointer (some ⟨B, 0, none⟩), .slice (some ⟨w0.heap.size, 0, none⟩) n n] (w0.alloc (.cells (xs.map (Value.int .i64)).toArray 2)) fun e w' => (∃ v : Int, v ∈ xs ∧ e = .returned (.int .i64 v)) ∧ Src w' B a len cap (k + 1) ∧ Below B w0 w' ∧ ApartH B w0 w' := by
  have hlt := hs.lt
  refine (l1Pick_any _ B a len cap k (hs.alloc _) w0.heap.size xs (by omega) n hn ?_ hpos hlen hk hl2).mono fun _ w' ⟨h1, h2⟩ => ⟨h1, ?_⟩
  · intro i x hx
    rw [World.cell?_alloc_mark]
    simp [hx]
  · obtain ⟨s, b⟩ := (hs.alloc _).stepped h2
    exact ⟨s, ((Below.refl B w0).alloc (Nat.le_of_lt hlt) _).trans b, (ApartH.alloc B w0 _).trans (.stepped h2)⟩
theorem l1Word_h (w0 : World) (B : Nat) (a : Option Addr) (len cap k : Nat) (hs : Src w0 B a len cap k) (xs : List ByteArray) (n : Nat) (hn : xs.length = n) (hpos : 0 < n) (hlen : n ≤ 1000)
    (hk : k ≤ 1000000) (hl2 : len ≤ 1048576) :
    Calls Tryz.prog 20 #[.pointer (some ⟨B, 0, none⟩), .slice (some ⟨w0.heap.size, 0, none⟩) n n] (w0.alloc (.cells (xs.map Value.string).toArray 9)) fun e w' => (∃ v : ByteArray, v ∈ xs ∧ e = .returned (.string v)) ∧ Src w' B a len cap (k + 1) ∧ Below B w0 w' ∧ ApartH B w0 w' := by
  have hlt := hs.lt
  refine (l1Word_any _ B a len cap k (hs.alloc _) w0.heap.size xs (by omega) n hn ?_ hpos hlen hk hl2).mono fun _ w' ⟨h1, h2⟩ => ⟨h1, ?_⟩
  · intro i x hx
    rw [World.cell?_alloc_mark]
    simp [hx]
  · obtain ⟨s, b⟩ := (hs.alloc _).stepped h2
    exact ⟨s, ((Below.refl B w0).alloc (Nat.le_of_lt hlt) _).trans b, (ApartH.alloc B w0 _).trans (.stepped h2)⟩
set_option maxHeartbeats 1000000 in
theorem l1Long_h (w : World) (B : Nat) (a : Option Addr) (len cap k : Nat) (hs : Src w B a len cap k) (t : ByteArray) (ht : t.size ≤ 1001)
    (hk : k ≤ 100000) (hl2 : len ≤ 1048576) :
    Calls Tryz.prog 45 #[.pointer (some ⟨B, 0, none⟩), .string t] w fun e w' => (∃ r : ByteArray, 1000 ≤ r.size ∧ r.size ≤ 1001 ∧ e = .returned (.string r)) ∧ (∃ k', k' ≤ k + 1002 ∧ Src w' B a len cap k') ∧ Below B w w' ∧ ApartH B w w' := by
  have HS : Hid (Src w B a len cap k) := hs
  clear hs
  go_enter Tryz.func45, Tryz.ntmps45
  go_wp2_with fail
  go_loopw [1] (fun x wr => ∃ (r : ByteArray) (j : Nat), x = .string r ∧ r.size = t.size + j ∧ r.size ≤ 1001 ∧ Src wr B a len cap (k + j) ∧ Below B w wr ∧ ApartH B w wr) (fun x _ => 1001 - (match x with | .string r => r.size | _ => 0))
  case atStart => exact ⟨t, 0, rfl, rfl, ht, HS.out, Below.refl _ _, .refl _ _⟩
  case round =>
    obtain ⟨r, j, rfl, hr1, hr2, hsr, hb, ha⟩ := hrel
    have HR : Hid (Src wr B a len cap (k + j)) := hsr
    have HJ : Hid (r.size = t.size + j) := hr1
    have HA : Hid (ApartH B w wr) := ha
    have hj : j ≤ 1001 := by omega
    clear hsr HS hr1 ha
    go_wp2_with fail
    refine (l1Pick_h _ B a len cap (k + j) HR.out [1000, 1001] 2 rfl (by omega) (by omega) (by omega) hl2).mono ?_
    rintro e w2 ⟨⟨v, hv, rfl⟩, hs2, hb2, ha2⟩
    have HS2 : Hid (Src w2 B a len cap (k + j + 1)) := hs2
    have HA2 : Hid (ApartH B w w2) := HA.out.trans ha2
    have hv1 : 1000 ≤ v ∧ v ≤ 1001 := by simp at hv; omega
    obtain ⟨v0, v1⟩ := hv1
    clear hs2 HR hv HA ha2
    by_cases hlt : (r.size : Int) < v
    · have hadd := fun w => run_string_add_sum (P := Tryz.prog) (w := w) r ⟨#[32]⟩ (by have : (⟨#[32]⟩ : ByteArray).size = 1 := rfl; omega)
      have HZ : Hid ((r ++ (⟨#[32]⟩ : ByteArray)).size = r.size + 1) := by show _ = _; simp [ByteArray.size_append]; rfl
      generalize r ++ (⟨#[32]⟩ : ByteArray) = r' at *
      go_wp2_with fail
      go_roundw
      case rel => exact ⟨r', j + 1, rfl, by have := HZ.out; have := HJ.out; omega, by have := HZ.out; omega, HS2.out, hb.trans hb2, HA2.out⟩
      case measure => have := HZ.out; simp; omega
    · go_wp2_with fail
      go_ret
      exact ⟨⟨r, by omega, hr2, rfl⟩, ⟨k + j + 1, by omega, HS2.out⟩, hb.trans hb2, HA2.out⟩
end Go.Proofs.YtmnblligifgcjaaGreatDoor
/-
  The draw of a head line.
-/
namespace Go.Proofs.YtmnblligifgcjaaGreatDoor
open Go.ChangeShapes Go.WideShapes Go.ChangeAt Go.RowKit
/-- A head line in memory. -/
structure HdrAtB (w : World) (b : Nat) (n v : ByteArray) : Prop where
  c0 : w.cell? ⟨b, 0, none⟩ = some (.string n)
  c1 : w.cell? ⟨b, 1, none⟩ = some (.string v)
  fr : ∀ o, w.frozen? ⟨b, o, none⟩ = false
theorem HdrAtB.lt {w : World} {b : Nat} {n v : ByteArray} (k : HdrAtB w b n v) : b < w.heap.size := block_lt_of_cell k.c0
theorem HdrAtB.apart {B : Nat} {w w' : World} {b : Nat} {n v : ByteArray} (k : HdrAtB w b n v) (ha : Apart B w w') (hn : b ≠ B) : HdrAtB w' b n v :=
  ⟨by rw [ha.cell _ _ k.lt hn, k.c0], by rw [ha.cell _ _ k.lt hn, k.c1], fun o => by rw [ha.frozen _ _ k.lt hn, k.fr]⟩
theorem hdrAtB_new (w : World) (n v : ByteArray) (t : TypeId) : HdrAtB (w.alloc (.cells #[.string n, .string v] t)) w.heap.size n v := ⟨by simp, by simp, fun o => by simp⟩
theorem ApartH.hfresh {B : Nat} {w w' : World} {b o : Nat} {v : Value} (h : ApartH B w w') (hb : w.heap.size ≤ b) : ApartH B w (w'.setCell ⟨b, o, none⟩ v) :=
  ⟨by have := h.size; simpa using this, fun c hc hn => by rw [setCell_block (by show c ≠ b; omega)]; exact h.block c hc hn⟩
theorem smallH_of {xs : List ByteArray} {v : ByteArray} (h : v ∈ xs) (hx : xs.all (fun x => decide (x.size ≤ 1100)) = true) : v.size ≤ 1100 := by
  have := List.all_eq_true.1 hx v h
  simpa using this
/-- A drawn line, its texts not long. -/
def SomeHead (e : Ending) : Prop := ∃ n v, n.size ≤ 1100 ∧ v.size ≤ 1100 ∧ e = .returned (.agg #[.string n, .string v])
set_option maxRecDepth 100000 in
set_option maxHeartbeats 8000000 in
theorem l4DrawLine_any (w : World) (B : Nat) (a : Option Addr) (len cap k : Nat) (hs : Src w B a len cap k) (hk : k ≤ 50000) (hl2 : len ≤ 1048576) :
    Calls Tryz.prog 46 #[.pointer (some ⟨B, 0, none⟩)] w fun e w' => SomeHead e ∧ (∃ k', k' ≤ k + 3 ∧ Src w' B a len cap k') ∧ Below B w w' ∧ ApartH B w w' := by
  have HS : Hid (Src w B a len cap k) := hs
  have hlt := hs.lt
  clear hs
  have H0 := l1Next_h (w.alloc (.cells #[.string ⟨#[]⟩, .string ⟨#[]⟩] 51)) B a len cap k 9 (HS.out.alloc _) (by omega) (by omega) (by omega) hl2
  go_enter Tryz.func46, Tryz.ntmps46
  go_wp2_with fail
  refine H0.mono ?_
  rintro e w1 ⟨⟨x, hx0, hx1, rfl⟩, hs1, hb1, ha1⟩
  have HS1 : Hid (Src w1 B a len cap (k + 1)) := hs1
  have HB1 : Hid (Below B w w1) := ((Below.refl _ _).alloc (by omega) _).trans hb1
  have HA1 : Hid (ApartH B w w1) := (ApartH.alloc B w _).trans ha1
  have HR1 : Hid (HdrAtB w1 w.heap.size ⟨#[]⟩ ⟨#[]⟩) := (hdrAtB_new w ⟨#[]⟩ ⟨#[]⟩ 51).apart ha1.cells (by omega)
  clear hs1 hb1 ha1 HS H0
  have hxs : x = 0 ∨ x = 1 ∨ x = 2 ∨ x = 3 ∨ x = 4 ∨ x = 5 ∨ x = 6 ∨ 7 ≤ x := by omega
  rcases hxs with rfl | rfl | rfl | rfl | rfl | rfl | rfl | hx7
  · skip
    have H2 := l1Word_h w1 B a len cap (k + 1) HS1.out ([⟨#[67, 97, 99, 104, 101, 45, 67, 111, 110, 116, 114, 111, 108]⟩, ⟨#[99, 97, 99, 104, 101, 45, 99, 111, 110, 116, 114, 111, 108]⟩] : List ByteArray) 2 rfl (by omega) (by omega) (by omega) hl2
    simp only [List.map_cons, List.map_nil] at H2
    go_wp2_with fail
    refine H2.mono ?_
    rintro e w2 ⟨⟨n, hn, rfl⟩, hs2, hb2, ha2⟩
    have hnz := smallH_of hn (by decide)
    have HS2 : Hid (Src w2 B a len cap (k + 2)) := hs2
    have HB2 : Hid (Below B w w2) := HB1.out.trans hb2
    have HA2 : Hid (ApartH B w w2) := HA1.out.trans ha2
    have HR2 : Hid (HdrAtB w2 w.heap.size ⟨#[]⟩ ⟨#[]⟩) := HR1.out.apart ha2.cells (by omega)
    clear hs2 hb2 ha2 H2 hn HS1 HB1 HA1 HR1
    have H3 := l1Word_h w2 B a len cap (k + 2) HS2.out ([⟨#[109, 97, 120, 45, 97, 103, 101, 61, 53]⟩, ⟨#[109, 97, 120, 45, 97, 103, 101, 61, 50, 44, 32, 115, 116, 97, 108, 101, 45, 119, 104, 105, 108, 101, 45, 114, 101, 118, 97, 108, 105, 100, 97, 116, 101, 61, 51]⟩, ⟨#[115, 45, 109, 97, 120, 97, 103, 101, 61, 49, 44, 32, 115, 116, 97, 108, 101, 45, 105, 102, 45, 101, 114, 114, 111, 114, 61, 57]⟩, ⟨#[110, 111, 45, 115, 116, 111, 114, 101]⟩, ⟨#[110, 111, 45, 99, 97, 99, 104, 101]⟩, ⟨#[112, 114, 105, 118, 97, 116, 101]⟩, ⟨#[109, 97, 120, 45, 97, 103, 101, 61, 48, 44, 32, 109, 117, 115, 116, 45, 114, 101, 118, 97, 108, 105, 100, 97, 116, 101]⟩, ⟨#[109, 97, 120, 45, 97, 103, 101, 61, 120]⟩, ⟨#[112, 117, 98, 108, 105, 99]⟩, ⟨#[109, 97, 120, 45, 97, 103, 101, 61, 54, 48, 44, 32, 115, 116, 97, 108, 101, 45, 119, 104, 105, 108, 101, 45, 114, 101, 118, 97, 108, 105, 100, 97, 116, 101, 61, 54, 48, 44, 32, 115, 116, 97, 108, 101, 45, 105, 102, 45, 101, 114, 114, 111, 114, 61, 54, 48]⟩] : List ByteArray) 10 rfl (by omega) (by omega) (by omega) hl2
    simp only [List.map_cons, List.map_nil] at H3
    go_wp2_with fail
    refine H3.mono ?_
    rintro e w3 ⟨⟨v, hv, rfl⟩, hs3, hb3, ha3⟩
    have hvz := smallH_of hv (by decide)
    have HS3 : Hid (Src w3 B a len cap (k + 3)) := hs3
    have HB3 : Hid (Below B w w3) := HB2.out.trans hb3
    have HA3 : Hid (ApartH B w w3) := HA2.out.trans ha3
    have HR3 : Hid (HdrAtB w3 w.heap.size ⟨#[]⟩ ⟨#[]⟩) := HR2.out.apart ha3.cells (by omega)
    clear hs3 hb3 ha3 H3 hv HS2 HB2 HA2 HR2
    obtain ⟨r0, r1, rf⟩ := HR3.out
    have rf0 := rf 0
    have rf1 := rf 1
    clear rf
    go_wp2_with fail
    refine bodyPost_ret (v := .agg #[.string n, .string v]) ?_ rfl ⟨⟨_, v, hnz, hvz, rfl⟩, ⟨k + 3, by omega, HS3.out.below (((Below.refl (B + 1) _).setCell (by simp; omega) _).setCell (by simp; omega) _)⟩, (HB3.out.setCell (by simp; omega) _).setCell (by simp; omega) _, (HA3.out.hfresh (Nat.le_refl _)).hfresh (Nat.le_refl _)⟩
    simp [results, Tryz.results46, go_sem, r0, r1]
  · skip
    have H2 := l1Word_h w1 B a len cap (k + 1) HS1.out ([⟨#[67, 97, 99, 104, 101, 45, 67, 111, 110, 116, 114, 111, 108]⟩, ⟨#[99, 97, 99, 104, 101, 45, 99, 111, 110, 116, 114, 111, 108]⟩] : List ByteArray) 2 rfl (by omega) (by omega) (by omega) hl2
    simp only [List.map_cons, List.map_nil] at H2
    go_wp2_with fail
    refine H2.mono ?_
    rintro e w2 ⟨⟨n, hn, rfl⟩, hs2, hb2, ha2⟩
    have hnz := smallH_of hn (by decide)
    have HS2 : Hid (Src w2 B a len cap (k + 2)) := hs2
    have HB2 : Hid (Below B w w2) := HB1.out.trans hb2
    have HA2 : Hid (ApartH B w w2) := HA1.out.trans ha2
    have HR2 : Hid (HdrAtB w2 w.heap.size ⟨#[]⟩ ⟨#[]⟩) := HR1.out.apart ha2.cells (by omega)
    clear hs2 hb2 ha2 H2 hn HS1 HB1 HA1 HR1
    have H3 := l1Word_h w2 B a len cap (k + 2) HS2.out ([⟨#[109, 97, 120, 45, 97, 103, 101, 61, 53]⟩, ⟨#[109, 97, 120, 45, 97, 103, 101, 61, 50, 44, 32, 115, 116, 97, 108, 101, 45, 119, 104, 105, 108, 101, 45, 114, 101, 118, 97, 108, 105, 100, 97, 116, 101, 61, 51]⟩, ⟨#[115, 45, 109, 97, 120, 97, 103, 101, 61, 49, 44, 32, 115, 116, 97, 108, 101, 45, 105, 102, 45, 101, 114, 114, 111, 114, 61, 57]⟩, ⟨#[110, 111, 45, 115, 116, 111, 114, 101]⟩, ⟨#[110, 111, 45, 99, 97, 99, 104, 101]⟩, ⟨#[112, 114, 105, 118, 97, 116, 101]⟩, ⟨#[109, 97, 120, 45, 97, 103, 101, 61, 48, 44, 32, 109, 117, 115, 116, 45, 114, 101, 118, 97, 108, 105, 100, 97, 116, 101]⟩, ⟨#[109, 97, 120, 45, 97, 103, 101, 61, 120]⟩, ⟨#[112, 117, 98, 108, 105, 99]⟩, ⟨#[109, 97, 120, 45, 97, 103, 101, 61, 54, 48, 44, 32, 115, 116, 97, 108, 101, 45, 119, 104, 105, 108, 101, 45, 114, 101, 118, 97, 108, 105, 100, 97, 116, 101, 61, 54, 48, 44, 32, 115, 116, 97, 108, 101, 45, 105, 102, 45, 101, 114, 114, 111, 114, 61, 54, 48]⟩] : List ByteArray) 10 rfl (by omega) (by omega) (by omega) hl2
    simp only [List.map_cons, List.map_nil] at H3
    go_wp2_with fail
    refine H3.mono ?_
    rintro e w3 ⟨⟨v, hv, rfl⟩, hs3, hb3, ha3⟩
    have hvz := smallH_of hv (by decide)
    have HS3 : Hid (Src w3 B a len cap (k + 3)) := hs3
    have HB3 : Hid (Below B w w3) := HB2.out.trans hb3
    have HA3 : Hid (ApartH B w w3) := HA2.out.trans ha3
    have HR3 : Hid (HdrAtB w3 w.heap.size ⟨#[]⟩ ⟨#[]⟩) := HR2.out.apart ha3.cells (by omega)
    clear hs3 hb3 ha3 H3 hv HS2 HB2 HA2 HR2
    obtain ⟨r0, r1, rf⟩ := HR3.out
    have rf0 := rf 0
    have rf1 := rf 1
    clear rf
    go_wp2_with fail
    refine bodyPost_ret (v := .agg #[.string n, .string v]) ?_ rfl ⟨⟨_, v, hnz, hvz, rfl⟩, ⟨k + 3, by omega, HS3.out.below (((Below.refl (B + 1) _).setCell (by simp; omega) _).setCell (by simp; omega) _)⟩, (HB3.out.setCell (by simp; omega) _).setCell (by simp; omega) _, (HA3.out.hfresh (Nat.le_refl _)).hfresh (Nat.le_refl _)⟩
    simp [results, Tryz.results46, go_sem, r0, r1]
  · skip
    have hnz : (⟨#[69, 84, 97, 103]⟩ : ByteArray).size ≤ 1100 := by decide
    have H2 := l1Word_h w1 B a len cap (k + 1) HS1.out ([⟨#[34, 118, 49, 34]⟩, ⟨#[34, 118, 50, 34]⟩, ⟨#[87, 47, 34, 118, 49, 34]⟩] : List ByteArray) 3 rfl (by omega) (by omega) (by omega) hl2
    simp only [List.map_cons, List.map_nil] at H2
    go_wp2_with fail
    refine H2.mono ?_
    rintro e w2 ⟨⟨v, hv, rfl⟩, hs2, hb2, ha2⟩
    have hvz := smallH_of hv (by decide)
    have HS2 : Hid (Src w2 B a len cap (k + 2)) := hs2
    have HB2 : Hid (Below B w w2) := HB1.out.trans hb2
    have HA2 : Hid (ApartH B w w2) := HA1.out.trans ha2
    have HR2 : Hid (HdrAtB w2 w.heap.size ⟨#[]⟩ ⟨#[]⟩) := HR1.out.apart ha2.cells (by omega)
    clear hs2 hb2 ha2 H2 hv HS1 HB1 HA1 HR1
    obtain ⟨r0, r1, rf⟩ := HR2.out
    have rf0 := rf 0
    have rf1 := rf 1
    clear rf
    go_wp2_with fail
    refine bodyPost_ret (v := .agg #[.string ⟨#[69, 84, 97, 103]⟩, .string v]) ?_ rfl ⟨⟨_, v, hnz, hvz, rfl⟩, ⟨k + 2, by omega, HS2.out.below (((Below.refl (B + 1) _).setCell (by simp; omega) _).setCell (by simp; omega) _)⟩, (HB2.out.setCell (by simp; omega) _).setCell (by simp; omega) _, (HA2.out.hfresh (Nat.le_refl _)).hfresh (Nat.le_refl _)⟩
    simp [results, Tryz.results46, go_sem, r0, r1]
  · skip
    have hnz : (⟨#[86, 97, 114, 121]⟩ : ByteArray).size ≤ 1100 := by decide
    have H2 := l1Word_h w1 B a len cap (k + 1) HS1.out ([⟨#[65, 99, 99, 101, 112, 116]⟩, ⟨#[97, 99, 99, 101, 112, 116, 45, 108, 97, 110, 103, 117, 97, 103, 101]⟩, ⟨#[42]⟩, ⟨#[65, 99, 99, 101, 112, 116, 44, 32, 88, 45, 65]⟩] : List ByteArray) 4 rfl (by omega) (by omega) (by omega) hl2
    simp only [List.map_cons, List.map_nil] at H2
    go_wp2_with fail
    refine H2.mono ?_
    rintro e w2 ⟨⟨v, hv, rfl⟩, hs2, hb2, ha2⟩
    have hvz := smallH_of hv (by decide)
    have HS2 : Hid (Src w2 B a len cap (k + 2)) := hs2
    have HB2 : Hid (Below B w w2) := HB1.out.trans hb2
    have HA2 : Hid (ApartH B w w2) := HA1.out.trans ha2
    have HR2 : Hid (HdrAtB w2 w.heap.size ⟨#[]⟩ ⟨#[]⟩) := HR1.out.apart ha2.cells (by omega)
    clear hs2 hb2 ha2 H2 hv HS1 HB1 HA1 HR1
    obtain ⟨r0, r1, rf⟩ := HR2.out
    have rf0 := rf 0
    have rf1 := rf 1
    clear rf
    go_wp2_with fail
    refine bodyPost_ret (v := .agg #[.string ⟨#[86, 97, 114, 121]⟩, .string v]) ?_ rfl ⟨⟨_, v, hnz, hvz, rfl⟩, ⟨k + 2, by omega, HS2.out.below (((Below.refl (B + 1) _).setCell (by simp; omega) _).setCell (by simp; omega) _)⟩, (HB2.out.setCell (by simp; omega) _).setCell (by simp; omega) _, (HA2.out.hfresh (Nat.le_refl _)).hfresh (Nat.le_refl _)⟩
    simp [results, Tryz.results46, go_sem, r0, r1]
  · skip
    have hnz : (⟨#[65, 103, 101]⟩ : ByteArray).size ≤ 1100 := by decide
    have H2 := l1Word_h w1 B a len cap (k + 1) HS1.out ([⟨#[48]⟩, ⟨#[49]⟩, ⟨#[51]⟩, ⟨#[120]⟩] : List ByteArray) 4 rfl (by omega) (by omega) (by omega) hl2
    simp only [List.map_cons, List.map_nil] at H2
    go_wp2_with fail
    refine H2.mono ?_
    rintro e w2 ⟨⟨v, hv, rfl⟩, hs2, hb2, ha2⟩
    have hvz := smallH_of hv (by decide)
    have HS2 : Hid (Src w2 B a len cap (k + 2)) := hs2
    have HB2 : Hid (Below B w w2) := HB1.out.trans hb2
    have HA2 : Hid (ApartH B w w2) := HA1.out.trans ha2
    have HR2 : Hid (HdrAtB w2 w.heap.size ⟨#[]⟩ ⟨#[]⟩) := HR1.out.apart ha2.cells (by omega)
    clear hs2 hb2 ha2 H2 hv HS1 HB1 HA1 HR1
    obtain ⟨r0, r1, rf⟩ := HR2.out
    have rf0 := rf 0
    have rf1 := rf 1
    clear rf
    go_wp2_with fail
    refine bodyPost_ret (v := .agg #[.string ⟨#[65, 103, 101]⟩, .string v]) ?_ rfl ⟨⟨_, v, hnz, hvz, rfl⟩, ⟨k + 2, by omega, HS2.out.below (((Below.refl (B + 1) _).setCell (by simp; omega) _).setCell (by simp; omega) _)⟩, (HB2.out.setCell (by simp; omega) _).setCell (by simp; omega) _, (HA2.out.hfresh (Nat.le_refl _)).hfresh (Nat.le_refl _)⟩
    simp [results, Tryz.results46, go_sem, r0, r1]
  · skip
    have H2 := l1Word_h w1 B a len cap (k + 1) HS1.out ([⟨#[69, 120, 112, 105, 114, 101, 115]⟩, ⟨#[68, 97, 116, 101]⟩] : List ByteArray) 2 rfl (by omega) (by omega) (by omega) hl2
    simp only [List.map_cons, List.map_nil] at H2
    go_wp2_with fail
    refine H2.mono ?_
    rintro e w2 ⟨⟨n, hn, rfl⟩, hs2, hb2, ha2⟩
    have hnz := smallH_of hn (by decide)
    have HS2 : Hid (Src w2 B a len cap (k + 2)) := hs2
    have HB2 : Hid (Below B w w2) := HB1.out.trans hb2
    have HA2 : Hid (ApartH B w w2) := HA1.out.trans ha2
    have HR2 : Hid (HdrAtB w2 w.heap.size ⟨#[]⟩ ⟨#[]⟩) := HR1.out.apart ha2.cells (by omega)
    clear hs2 hb2 ha2 H2 hn HS1 HB1 HA1 HR1
    have H3 := l1Word_h w2 B a len cap (k + 2) HS2.out ([⟨#[84, 104, 117, 44, 32, 48, 49, 32, 74, 97, 110, 32, 49, 57, 55, 48, 32, 48, 48, 58, 48, 48, 58, 48, 53, 32, 71, 77, 84]⟩, ⟨#[84, 104, 117, 44, 32, 48, 49, 32, 74, 97, 110, 32, 49, 57, 55, 48, 32, 48, 48, 58, 48, 48, 58, 48, 57, 32, 71, 77, 84]⟩, ⟨#[48]⟩] : List ByteArray) 3 rfl (by omega) (by omega) (by omega) hl2
    simp only [List.map_cons, List.map_nil] at H3
    go_wp2_with fail
    refine H3.mono ?_
    rintro e w3 ⟨⟨v, hv, rfl⟩, hs3, hb3, ha3⟩
    have hvz := smallH_of hv (by decide)
    have HS3 : Hid (Src w3 B a len cap (k + 3)) := hs3
    have HB3 : Hid (Below B w w3) := HB2.out.trans hb3
    have HA3 : Hid (ApartH B w w3) := HA2.out.trans ha3
    have HR3 : Hid (HdrAtB w3 w.heap.size ⟨#[]⟩ ⟨#[]⟩) := HR2.out.apart ha3.cells (by omega)
    clear hs3 hb3 ha3 H3 hv HS2 HB2 HA2 HR2
    obtain ⟨r0, r1, rf⟩ := HR3.out
    have rf0 := rf 0
    have rf1 := rf 1
    clear rf
    go_wp2_with fail
    refine bodyPost_ret (v := .agg #[.string n, .string v]) ?_ rfl ⟨⟨_, v, hnz, hvz, rfl⟩, ⟨k + 3, by omega, HS3.out.below (((Below.refl (B + 1) _).setCell (by simp; omega) _).setCell (by simp; omega) _)⟩, (HB3.out.setCell (by simp; omega) _).setCell (by simp; omega) _, (HA3.out.hfresh (Nat.le_refl _)).hfresh (Nat.le_refl _)⟩
    simp [results, Tryz.results46, go_sem, r0, r1]
  · skip
    have hnz : (⟨#[83, 117, 114, 114, 111, 103, 97, 116, 101, 45, 75, 101, 121]⟩ : ByteArray).size ≤ 1100 := by decide
    have H2 := l1Word_h w1 B a len cap (k + 1) HS1.out ([⟨#[97, 32, 98]⟩, ⟨#[97]⟩, ⟨#[98, 32, 99]⟩] : List ByteArray) 3 rfl (by omega) (by omega) (by omega) hl2
    simp only [List.map_cons, List.map_nil] at H2
    go_wp2_with fail
    refine H2.mono ?_
    rintro e w2 ⟨⟨v, hv, rfl⟩, hs2, hb2, ha2⟩
    have hvz := smallH_of hv (by decide)
    have HS2 : Hid (Src w2 B a len cap (k + 2)) := hs2
    have HB2 : Hid (Below B w w2) := HB1.out.trans hb2
    have HA2 : Hid (ApartH B w w2) := HA1.out.trans ha2
    have HR2 : Hid (HdrAtB w2 w.heap.size ⟨#[]⟩ ⟨#[]⟩) := HR1.out.apart ha2.cells (by omega)
    clear hs2 hb2 ha2 H2 hv HS1 HB1 HA1 HR1
    obtain ⟨r0, r1, rf⟩ := HR2.out
    have rf0 := rf 0
    have rf1 := rf 1
    clear rf
    go_wp2_with fail
    refine bodyPost_ret (v := .agg #[.string ⟨#[83, 117, 114, 114, 111, 103, 97, 116, 101, 45, 75, 101, 121]⟩, .string v]) ?_ rfl ⟨⟨_, v, hnz, hvz, rfl⟩, ⟨k + 2, by omega, HS2.out.below (((Below.refl (B + 1) _).setCell (by simp; omega) _).setCell (by simp; omega) _)⟩, (HB2.out.setCell (by simp; omega) _).setCell (by simp; omega) _, (HA2.out.hfresh (Nat.le_refl _)).hfresh (Nat.le_refl _)⟩
    simp [results, Tryz.results46, go_sem, r0, r1]
  · skip
    have n0 : ¬ x = 0 := by omega
    have n1 : ¬ x = 1 := by omega
    have n2 : ¬ x = 2 := by omega
    have n3 : ¬ x = 3 := by omega
    have n4 : ¬ x = 4 := by omega
    have n5 : ¬ x = 5 := by omega
    have n6 : ¬ x = 6 := by omega
    have H2 := l1Word_h w1 B a len cap (k + 1) HS1.out ([⟨#[65, 99, 99, 101, 112, 116]⟩, ⟨#[88, 45, 65]⟩, ⟨#[65, 99, 99, 101, 112, 116, 45, 76, 97, 110, 103, 117, 97, 103, 101]⟩, ⟨#[83, 101, 114, 118, 101, 114]⟩] : List ByteArray) 4 rfl (by omega) (by omega) (by omega) hl2
    simp only [List.map_cons, List.map_nil] at H2
    go_wp2_with fail
    refine H2.mono ?_
    rintro e w2 ⟨⟨n, hn, rfl⟩, hs2, hb2, ha2⟩
    have hnz := smallH_of hn (by decide)
    have HS2 : Hid (Src w2 B a len cap (k + 2)) := hs2
    have HB2 : Hid (Below B w w2) := HB1.out.trans hb2
    have HA2 : Hid (ApartH B w w2) := HA1.out.trans ha2
    have HR2 : Hid (HdrAtB w2 w.heap.size ⟨#[]⟩ ⟨#[]⟩) := HR1.out.apart ha2.cells (by omega)
    clear hs2 hb2 ha2 H2 hn HS1 HB1 HA1 HR1
    have H3 := l1Word_h w2 B a len cap (k + 2) HS2.out ([⟨#[120]⟩, ⟨#[121]⟩, ⟨#[]⟩, ⟨#[116, 101, 120, 116, 47, 104, 116, 109, 108]⟩] : List ByteArray) 4 rfl (by omega) (by omega) (by omega) hl2
    simp only [List.map_cons, List.map_nil] at H3
    go_wp2_with fail
    refine H3.mono ?_
    rintro e w3 ⟨⟨v, hv, rfl⟩, hs3, hb3, ha3⟩
    have hvz := smallH_of hv (by decide)
    have HS3 : Hid (Src w3 B a len cap (k + 3)) := hs3
    have HB3 : Hid (Below B w w3) := HB2.out.trans hb3
    have HA3 : Hid (ApartH B w w3) := HA2.out.trans ha3
    have HR3 : Hid (HdrAtB w3 w.heap.size ⟨#[]⟩ ⟨#[]⟩) := HR2.out.apart ha3.cells (by omega)
    clear hs3 hb3 ha3 H3 hv HS2 HB2 HA2 HR2
    obtain ⟨r0, r1, rf⟩ := HR3.out
    have rf0 := rf 0
    have rf1 := rf 1
    clear rf
    go_wp2_with fail
    refine bodyPost_ret (v := .agg #[.string n, .string v]) ?_ rfl ⟨⟨_, v, hnz, hvz, rfl⟩, ⟨k + 3, by omega, HS3.out.below (((Below.refl (B + 1) _).setCell (by simp; omega) _).setCell (by simp; omega) _)⟩, (HB3.out.setCell (by simp; omega) _).setCell (by simp; omega) _, (HA3.out.hfresh (Nat.le_refl _)).hfresh (Nat.le_refl _)⟩
    simp [results, Tryz.results46, go_sem, r0, r1]
end Go.Proofs.YtmnblligifgcjaaGreatDoor
/-
  The draws of head lines.
-/
namespace Go.Proofs.YtmnblligifgcjaaGreatDoor
open Go.ChangeShapes Go.WideShapes Go.ChangeAt Go.RowKit
def SmallH (L : List Hdr) : Prop := ∀ r ∈ L, r.name.size ≤ 1100 ∧ r.value.size ≤ 1100
theorem SmallH.nil : SmallH [] := fun r h => by simp at h
theorem SmallH.snoc {L : List Hdr} {r : Hdr} (h : SmallH L) (h1 : r.name.size ≤ 1100) (h2 : r.value.size ≤ 1100) : SmallH (L ++ [r]) := fun q hq => by
  rcases List.mem_append.1 hq with hq | hq
  · exact h q hq
  · simp only [List.mem_singleton] at hq; subst hq; exact ⟨h1, h2⟩
/-- A list of its own, not long. -/
def SomeHeads (base m : Nat) (e : Ending) (w : World) : Prop := ∃ v L, e = .returned v ∧ OwnH w base v L ∧ L.length ≤ m ∧ SmallH L
set_option maxRecDepth 100000 in
set_option maxHeartbeats 4000000 in
theorem l4Draw_any (w : World) (B : Nat) (a : Option Addr) (len cap k : Nat) (n : Nat) (hn : n ≤ 5) (hs : Src w B a len cap k) (hk : k ≤ 1000) (hl2 : len ≤ 1048576) :
    Calls Tryz.prog 43 #[.pointer (some ⟨B, 0, none⟩), .int .i64 (n : Int)] w fun e w' => SomeHeads w.heap.size 5 e w' ∧ (∃ k', k' ≤ k + 100 ∧ Src w' B a len cap k') ∧ Below B w w' ∧ ApartH B w w' := by
  have HS : Hid (Src (w.alloc (.cells #[] 51)) B a len cap k) := hs.alloc _
  have hlt := hs.lt
  have HB : Hid (Below B w (w.alloc (.cells #[] 51))) := (Below.refl _ _).alloc (by omega) _
  have HA : Hid (ApartH B w (w.alloc (.cells #[] 51))) := ApartH.alloc B w _
  have HO : Hid (OwnH (w.alloc (.cells #[] 51)) w.heap.size (.slice (some ⟨w.heap.size, 0, none⟩) 0 0) []) := OwnH.made0 w w.heap.size (Nat.le_refl _)
  clear hs
  go_enter Tryz.func43, Tryz.ntmps43
  go_wp2_with fail
  go_loopw [1, 5] (fun x v wr => ∃ (j : Nat) (L : List Hdr) (k' : Nat), x = .int .i64 (j : Int) ∧ L.length + j ≤ 5 ∧ SmallH L ∧ OwnH wr w.heap.size v L ∧ k' ≤ k + 3 * L.length ∧ Src wr B a len cap k' ∧ Below B w wr ∧ ApartH B w wr) (fun x _ _ => (intOf x).toNat)
  case atStart => exact ⟨n, [], k, rfl, by simpa using hn, SmallH.nil, HO.out, by simp, HS.out, HB.out, HA.out⟩
  case round =>
    obtain ⟨j, L, k', rfl, hj, hL, hO, hk', hS, hB, hA⟩ := hrel
    have KO : Hid (OwnH wr w.heap.size u5 L) := hO
    have KL : Hid (SmallH L) := hL
    have KS : Hid (Src wr B a len cap k') := hS
    have KB : Hid (Below B w wr) := hB
    have KA : Hid (ApartH B w wr) := hA
    clear hO hL hS hB hA HS HB HA HO
    by_cases hj0 : 0 < j
    · have g : 0 < (j : Int) := by omega
      go_wp2_with fail
      refine (l4DrawLine_any _ B a len cap k' KS.out (by omega) hl2).mono ?_
      rintro e w5 ⟨⟨rn, rv, hrn, hrv, rfl⟩, ⟨k2, hk2, hs5⟩, hb5, ha5⟩
      have KO5 : Hid (OwnH w5 w.heap.size u5 L) := KO.out.apart ha5 hlt
      have KS5 : Hid (Src w5 B a len cap k2) := hs5
      have KB5 : Hid (Below B w w5) := KB.out.trans hb5
      have KA5 : Hid (ApartH B w w5) := KA.out.trans ha5
      have KL5 : Hid (SmallH (L ++ [⟨rn, rv⟩])) := KL.out.snoc hrn hrv
      have hz5 : w.heap.size ≤ w5.heap.size := KA5.out.size
      clear hs5 hb5 ha5 KO KS KB KA KL hrn hrv
      go_wp2_with (at_builtin; refine wpList_append_hdr _ rfl (.tmp 11) (.tmp 14) rfl w.heap.size _ L rn rv rfl (by simp [go_sem]) KO5.out (by omega) hz5 ?_; intro v6 w6 HO6 hb6 hz6 hk6)
      go_roundw
      case rel => exact ⟨j - 1, L ++ [⟨rn, rv⟩], k2, by congr 1; omega, by simp; omega, KL5.out, HO6, by simp; omega, KS5.out.below (hb6.mono (by omega)), KB5.out.trans (hb6.mono (by omega)), ⟨Nat.le_trans KA5.out.size hz6, fun b hb hn => by rw [hb6.block b hb]; exact KA5.out.block b hb hn⟩⟩
      case measure => simp [intOf]; omega
    · obtain rfl : j = 0 := by omega
      go_wp2_with fail
      go_ret
      exact ⟨⟨_, L, rfl, KO.out, by omega, KL.out⟩, ⟨k', by omega, KS.out⟩, KB.out, KA.out⟩
end Go.Proofs.YtmnblligifgcjaaGreatDoor
/-
  The draw of head lines that may be at fault.
-/
namespace Go.Proofs.YtmnblligifgcjaaGreatDoor
open Go.ChangeShapes Go.WideShapes Go.ChangeAt Go.RowKit
def hstrZ : Value → Nat
  | .string r => r.size
  | _ => 0
def hslcN : Value → Nat
  | .slice _ n _ => n
  | _ => 0
theorem own_len {w : World} {base : Nat} {v : Value} {L : List Hdr} (h : OwnH w base v L) : ∃ a c, v = .slice a L.length c := by
  obtain ⟨a, c, e, _⟩ := h.at
  exact ⟨a, c, e⟩
set_option maxRecDepth 100000 in
set_option maxHeartbeats 8000000 in
theorem l4Bent_any (w : World) (B : Nat) (a : Option Addr) (len cap k : Nat) (hs : Src w B a len cap k) (hk : k ≤ 900) (hl2 : len ≤ 1048576) :
    Calls Tryz.prog 18 #[.pointer (some ⟨B, 0, none⟩)] w fun e w' => SomeHeads w.heap.size 21 e w' ∧ (∃ k', k' ≤ k + 3000 ∧ Src w' B a len cap k') ∧ Below B w w' ∧ ApartH B w w' := by
  have HS : Hid (Src w B a len cap k) := hs
  have hlt := hs.lt
  clear hs
  have H0 := l1Pick_h w B a len cap k HS.out [0, 1, 2, 3, 5] 5 rfl (by omega) (by omega) (by omega) hl2
  simp only [List.map_cons, List.map_nil] at H0
  go_enter Tryz.func18, Tryz.ntmps18
  go_wp2_with fail
  refine H0.mono ?_
  rintro e w1 ⟨⟨n1, hn1, rfl⟩, hs1, hb1, ha1⟩
  obtain ⟨j1, rfl, hj1⟩ : ∃ j : Nat, n1 = (j : Int) ∧ j ≤ 5 := ⟨n1.toNat, by simp at hn1; omega, by simp at hn1; omega⟩
  have HS1 : Hid (Src w1 B a len cap (k + 1)) := hs1
  have HB1 : Hid (Below B w w1) := hb1
  have HA1 : Hid (ApartH B w w1) := ha1
  clear hs1 hb1 ha1 hn1 HS H0
  go_wp2_with fail
  refine (l4Draw_any w1 B a len cap (k + 1) j1 hj1 HS1.out (by omega) hl2).mono ?_
  rintro e w2 ⟨⟨v2, L, rfl, ho2, hL2, hr2⟩, ⟨k2, hk2, hs2⟩, hb2, ha2⟩
  obtain ⟨va, vc, rfl⟩ := own_len ho2
  have HO2 : Hid (OwnH w2 w.heap.size (.slice va L.length vc) L) := ho2.lower HA1.out.size
  have HR2 : Hid (SmallH L) := hr2
  have HS2 : Hid (Src w2 B a len cap k2) := hs2
  have HB2 : Hid (Below B w w2) := HB1.out.trans hb2
  have HA2 : Hid (ApartH B w w2) := HA1.out.trans ha2
  clear ho2 hr2 hs2 hb2 ha2 HS1 HB1 HA1
  clear w1
  go_wp2_with fail
  refine (l1Next_h _ B a len cap k2 20 HS2.out (by omega) (by omega) (by omega) hl2).mono ?_
  rintro e w3 ⟨⟨x, hx0, hx1, rfl⟩, hs3, hb3, ha3⟩
  have HS3 : Hid (Src w3 B a len cap (k2 + 1)) := hs3
  have HB3 : Hid (Below B w w3) := HB2.out.trans hb3
  have HA3 : Hid (ApartH B w w3) := HA2.out.trans ha3
  have HO3 : Hid (OwnH w3 w.heap.size (.slice va L.length vc) L) := HO2.out.apart ha3 hlt
  clear hs3 hb3 ha3 HS2 HB2 HA2 HO2
  clear w2
  have hxs : x = 0 ∨ x = 1 ∨ x = 2 ∨ x = 3 ∨ x = 4 ∨ 5 ≤ x := by omega
  rcases hxs with rfl | rfl | rfl | rfl | rfl | hx5
  · have H1 := l1Word_h w3 B a len cap (k2 + 1) HS3.out ([⟨#[]⟩, ⟨#[97, 32, 98]⟩, ⟨#[120, 58]⟩] : List ByteArray) 3 rfl (by omega) (by omega) (by omega) hl2
    simp only [List.map_cons, List.map_nil] at H1
    go_wp2_with fail
    refine H1.mono ?_
    rintro e w4 ⟨⟨n, hn, rfl⟩, hs4, hb4, ha4⟩
    have hnz := smallH_of hn (by decide)
    have HS4 : Hid (Src w4 B a len cap (k2 + 2)) := hs4
    have HB4 : Hid (Below B w w4) := HB3.out.trans hb4
    have HA4 : Hid (ApartH B w w4) := HA3.out.trans ha4
    have HO4 : Hid (OwnH w4 w.heap.size (.slice va L.length vc) L) := HO3.out.apart ha4 hlt
    have hz4 : w.heap.size ≤ w4.heap.size := HA4.out.size
    have HR4 : Hid (SmallH (L ++ [⟨n, ⟨#[118]⟩⟩])) := HR2.out.snoc hnz (by show (⟨#[118]⟩ : ByteArray).size ≤ 1100; decide)
    clear hs4 hb4 ha4 H1 hn HS3 HB3 HA3 HO3
    go_wp2_with (at_builtin; refine wpList_append_hdr _ rfl (.tmp 16) (.tmp 21) rfl w.heap.size _ L n ⟨#[118]⟩ rfl (by simp [go_sem]) HO4.out (by omega) hz4 ?_; intro v6 w6 HO6 hb6 hz6 hk6)
    go_ret
    exact ⟨⟨_, _, rfl, HO6, by simp; omega, HR4.out⟩, ⟨k2 + 2, by omega, HS4.out.below (hb6.mono (by omega))⟩, HB4.out.trans (hb6.mono (by omega)), ⟨Nat.le_trans HA4.out.size hz6, fun b hb hn => by rw [hb6.block b hb]; exact HA4.out.block b hb hn⟩⟩
  · have H1 := l1Word_h w3 B a len cap (k2 + 1) HS3.out ([⟨#[32, 118]⟩, ⟨#[118, 9]⟩, ⟨#[1]⟩, ⟨#[10]⟩] : List ByteArray) 4 rfl (by omega) (by omega) (by omega) hl2
    simp only [List.map_cons, List.map_nil] at H1
    go_wp2_with fail
    refine H1.mono ?_
    rintro e w4 ⟨⟨n, hn, rfl⟩, hs4, hb4, ha4⟩
    have hnz := smallH_of hn (by decide)
    have HS4 : Hid (Src w4 B a len cap (k2 + 2)) := hs4
    have HB4 : Hid (Below B w w4) := HB3.out.trans hb4
    have HA4 : Hid (ApartH B w w4) := HA3.out.trans ha4
    have HO4 : Hid (OwnH w4 w.heap.size (.slice va L.length vc) L) := HO3.out.apart ha4 hlt
    have hz4 : w.heap.size ≤ w4.heap.size := HA4.out.size
    have HR4 : Hid (SmallH (L ++ [⟨⟨#[120]⟩, n⟩])) := HR2.out.snoc (by show (⟨#[120]⟩ : ByteArray).size ≤ 1100; decide) hnz
    clear hs4 hb4 ha4 H1 hn HS3 HB3 HA3 HO3
    go_wp2_with (at_builtin; refine wpList_append_hdr _ rfl (.tmp 25) (.tmp 30) rfl w.heap.size _ L ⟨#[120]⟩ n rfl (by simp [go_sem]) HO4.out (by omega) hz4 ?_; intro v6 w6 HO6 hb6 hz6 hk6)
    go_ret
    exact ⟨⟨_, _, rfl, HO6, by simp; omega, HR4.out⟩, ⟨k2 + 2, by omega, HS4.out.below (hb6.mono (by omega))⟩, HB4.out.trans (hb6.mono (by omega)), ⟨Nat.le_trans HA4.out.size hz6, fun b hb hn => by rw [hb6.block b hb]; exact HA4.out.block b hb hn⟩⟩
  · go_wp2_with fail
    refine (l1Long_h _ B a len cap (k2 + 1) HS3.out ⟨#[118]⟩ (by decide) (by omega) hl2).mono ?_
    rintro e w4 ⟨⟨r2, hr20, hr21, rfl⟩, ⟨k4, hk4, hs4⟩, hb4, ha4⟩
    have HS4 : Hid (Src w4 B a len cap k4) := hs4
    have HB4 : Hid (Below B w w4) := HB3.out.trans hb4
    have HA4 : Hid (ApartH B w w4) := HA3.out.trans ha4
    have HO4 : Hid (OwnH w4 w.heap.size (.slice va L.length vc) L) := HO3.out.apart ha4 hlt
    clear hs4 hb4 ha4 HS3 HB3 HA3 HO3
    have HPK := l1Pick_h w4 B a len cap k4 HS4.out [200, 201] 2 rfl (by omega) (by omega) (by omega) hl2
    simp only [List.map_cons, List.map_nil] at HPK
    go_wp2_with fail
    refine HPK.mono ?_
    rintro e w5 ⟨⟨p, hp, rfl⟩, hs5, hb5, ha5⟩
    have hpb : 200 ≤ p ∧ p ≤ 201 := by simp at hp; omega
    obtain ⟨hp0, hp1⟩ := hpb
    have HS5 : Hid (Src w5 B a len cap (k4 + 1)) := hs5
    have HB5 : Hid (Below B w w5) := HB4.out.trans hb5
    have HA5 : Hid (ApartH B w w5) := HA4.out.trans ha5
    have HO5 : Hid (OwnH w5 w.heap.size (.slice va L.length vc) L) := HO4.out.apart ha5 hlt
    have hz5 : w.heap.size ≤ w5.heap.size := HA5.out.size
    clear hs5 hb5 ha5 hp HPK HS4 HB4 HA4 HO4
    have hq : (r2.extract 0 p.toNat).size ≤ 201 := by rw [ByteArray.size_extract]; omega
    have g5 : p ≤ (r2.size : Int) := by omega
    have hsl := fun w => run_slice_string_h (P := Tryz.prog) w 9 r2 Tryz.underlying9 .i64 p (by omega) g5
    have h1z : (⟨#[118]⟩ : ByteArray).size = 1 := rfl
    have hadd := fun w => run_string_add_sum (P := Tryz.prog) (w := w) (r2.extract 0 p.toNat) ⟨#[118]⟩ (by omega)
    have hzz : (r2.extract 0 p.toNat ++ (⟨#[118]⟩ : ByteArray)).size ≤ 1100 := by rw [ByteArray.size_append]; omega
    have HR5 : Hid (SmallH (L ++ [⟨⟨#[120]⟩, r2.extract 0 p.toNat ++ ⟨#[118]⟩⟩])) := HR2.out.snoc (by show (⟨#[120]⟩ : ByteArray).size ≤ 1100; decide) hzz
    clear h1z
    generalize r2.extract 0 p.toNat = q at *
    generalize q ++ (⟨#[118]⟩ : ByteArray) = q2 at *
    go_wp2_with (at_builtin; refine wpList_append_hdr _ rfl (.tmp 34) (.tmp 43) rfl w.heap.size _ L ⟨#[120]⟩ q2 rfl (by simp [go_sem]) HO5.out (by omega) hz5 ?_; intro v6 w6 HO6 hb6 hz6 hk6)
    go_ret
    exact ⟨⟨_, _, rfl, HO6, by simp; omega, HR5.out⟩, ⟨k4 + 1, by omega, HS5.out.below (hb6.mono (by omega))⟩, HB5.out.trans (hb6.mono (by omega)), ⟨Nat.le_trans HA5.out.size hz6, fun b hb hn => by rw [hb6.block b hb]; exact HA5.out.block b hb hn⟩⟩
  · have HPK := l1Pick_h w3 B a len cap (k2 + 1) HS3.out [20, 21] 2 rfl (by omega) (by omega) (by omega) hl2
    simp only [List.map_cons, List.map_nil] at HPK
    go_wp2_with fail
    refine HPK.mono ?_
    rintro e w4 ⟨⟨p, hp, rfl⟩, hs4, hb4, ha4⟩
    have hpb : 20 ≤ p ∧ p ≤ 21 := by simp at hp; omega
    obtain ⟨hp0, hp1⟩ := hpb
    have HS4 : Hid (Src w4 B a len cap (k2 + 2)) := hs4
    have HB4 : Hid (Below B w w4) := HB3.out.trans hb4
    have HA4 : Hid (ApartH B w w4) := HA3.out.trans ha4
    have HO4 : Hid (OwnH w4 w.heap.size (.slice va L.length vc) L) := HO3.out.apart ha4 hlt
    clear hs4 hb4 ha4 hp HPK HS3 HB3 HA3 HO3
    go_wp2_with fail
    go_loopw [3] (fun v wr => ∃ (M : List Hdr) (k' : Nat), M.length ≤ 21 ∧ SmallH M ∧ OwnH wr w.heap.size v M ∧ k' ≤ k2 + 2 + 3 * M.length ∧ Src wr B a len cap k' ∧ Below B w wr ∧ ApartH B w wr) (fun v _ => 21 - hslcN v)
    case atStart => exact ⟨L, k2 + 2, by omega, HR2.out, HO4.out, by omega, HS4.out, HB4.out, HA4.out⟩
    case round =>
      obtain ⟨M, k', hM, hR, hO, hk', hS, hB, hA⟩ := hrel
      obtain ⟨ma, mc, rfl⟩ := own_len hO
      have KO : Hid (OwnH wr w.heap.size (.slice ma M.length mc) M) := hO
      have KL : Hid (SmallH M) := hR
      have KS : Hid (Src wr B a len cap k') := hS
      have KB : Hid (Below B w wr) := hB
      have KA : Hid (ApartH B w wr) := hA
      clear hO hR hS hB hA HS4 HB4 HA4 HO4 HR2
      by_cases hj0 : (M.length : Int) < p
      · go_wp2_with fail
        refine (l4DrawLine_any _ B a len cap k' KS.out (by omega) hl2).mono ?_
        rintro e w5 ⟨⟨rn, rv, hrn, hrv, rfl⟩, ⟨k3, hk3, hs5⟩, hb5, ha5⟩
        have KO5 : Hid (OwnH w5 w.heap.size (.slice ma M.length mc) M) := KO.out.apart ha5 hlt
        have KS5 : Hid (Src w5 B a len cap k3) := hs5
        have KB5 : Hid (Below B w w5) := KB.out.trans hb5
        have KA5 : Hid (ApartH B w w5) := KA.out.trans ha5
        have KL5 : Hid (SmallH (M ++ [⟨rn, rv⟩])) := KL.out.snoc hrn hrv
        have hz5 : w.heap.size ≤ w5.heap.size := KA5.out.size
        clear hs5 hb5 ha5 KO KS KB KA KL hrn hrv
        go_wp2_with (at_builtin; refine wpList_append_hdr _ rfl (.tmp 54) (.tmp 57) rfl w.heap.size _ M rn rv rfl (by simp [go_sem]) KO5.out (by omega) hz5 ?_; intro v6 w6 HO6 hb6 hz6 hk6)
        go_roundw
        case rel => exact ⟨M ++ [⟨rn, rv⟩], k3, by simp; omega, KL5.out, HO6, by simp; omega, KS5.out.below (hb6.mono (by omega)), KB5.out.trans (hb6.mono (by omega)), ⟨Nat.le_trans KA5.out.size hz6, fun b hb hn => by rw [hb6.block b hb]; exact KA5.out.block b hb hn⟩⟩
        case measure =>
          obtain ⟨a7, c7, rfl⟩ := own_len HO6
          simp [hslcN]; omega
      · go_wp2_with fail
        go_ret
        exact ⟨⟨_, M, rfl, KO.out, by omega, KL.out⟩, ⟨k', by omega, KS.out⟩, KB.out, KA.out⟩
  · have HPK := l1Pick_h w3 B a len cap (k2 + 1) HS3.out [200, 201] 2 rfl (by omega) (by omega) (by omega) hl2
    simp only [List.map_cons, List.map_nil] at HPK
    go_wp2_with fail
    refine HPK.mono ?_
    rintro e w4 ⟨⟨p, hp, rfl⟩, hs4, hb4, ha4⟩
    have hpb : 200 ≤ p ∧ p ≤ 201 := by simp at hp; omega
    obtain ⟨hp0, hp1⟩ := hpb
    have HS4 : Hid (Src w4 B a len cap (k2 + 2)) := hs4
    have HB4 : Hid (Below B w w4) := HB3.out.trans hb4
    have HA4 : Hid (ApartH B w w4) := HA3.out.trans ha4
    have HO4 : Hid (OwnH w4 w.heap.size (.slice va L.length vc) L) := HO3.out.apart ha4 hlt
    have hz4 : w.heap.size ≤ w4.heap.size := HA4.out.size
    clear hs4 hb4 ha4 hp HPK HS3 HB3 HA3 HO3
    go_wp2_with fail
    go_loop [5] (fun v => ∃ r : ByteArray, v = .string r ∧ r.size ≤ 201) (fun v => 201 - hstrZ v)
    case atStart => exact ⟨_, rfl, by decide⟩
    case round =>
      obtain ⟨r, rfl, hr⟩ := hrel
      by_cases hlt2 : (r.size : Int) < p
      · have hadd := fun w => run_string_add_sum (P := Tryz.prog) (w := w) r ⟨#[119]⟩ (by have : (⟨#[119]⟩ : ByteArray).size = 1 := rfl; omega)
        have HZ : Hid ((r ++ (⟨#[119]⟩ : ByteArray)).size = r.size + 1) := by show _ = _; simp [ByteArray.size_append]; rfl
        generalize r ++ (⟨#[119]⟩ : ByteArray) = r' at *
        go_wp2_with fail
        go_round
        case rel => exact ⟨r', rfl, by have := HZ.out; omega⟩
        case measure => have := HZ.out; simp [hstrZ]; omega
      · have HR5 : Hid (SmallH (L ++ [⟨⟨#[120]⟩, r⟩])) := HR2.out.snoc (by show (⟨#[120]⟩ : ByteArray).size ≤ 1100; decide) (by show r.size ≤ 1100; omega)
        go_wp2_with (at_builtin; refine wpList_append_hdr _ rfl (.tmp 70) (.tmp 73) rfl w.heap.size _ L ⟨#[120]⟩ r rfl (by simp [go_sem]) HO4.out (by omega) hz4 ?_; intro v6 w6 HO6 hb6 hz6 hk6)
        go_ret
        exact ⟨⟨_, _, rfl, HO6, by simp; omega, HR5.out⟩, ⟨k2 + 2, by omega, HS4.out.below (hb6.mono (by omega))⟩, HB4.out.trans (hb6.mono (by omega)), ⟨Nat.le_trans HA4.out.size hz6, fun b hb hn => by rw [hb6.block b hb]; exact HA4.out.block b hb hn⟩⟩
  · have n0 : ¬ x = 0 := by omega
    have n1 : ¬ x = 1 := by omega
    have n2 : ¬ x = 2 := by omega
    have n3 : ¬ x = 3 := by omega
    have n4 : ¬ x = 4 := by omega
    go_wp2_with fail
    go_ret
    exact ⟨⟨_, L, rfl, HO3.out, by omega, HR2.out⟩, ⟨k2 + 1, by omega, HS3.out⟩, HB3.out, HA3.out⟩
end Go.Proofs.YtmnblligifgcjaaGreatDoor
/-
  The laws' comparing of two lists of items that are alike.
-/
namespace Go.Proofs.YtmnblligifgcjaaGreatDoor
open Go.ChangeShapes Go.WideShapes Go.ChangeAt Go.RowKit Go.Sort
end Go.Proofs.YtmnblligifgcjaaGreatDoor
/-
  The laws' copy of head lines: what it holds may be written.
-/
namespace Go.Proofs.YtmnblligifgcjaaGreatDoor
open Go.ChangeShapes Go.WideShapes Go.ChangeAt Go.RowKit Go.Sort
end Go.Proofs.YtmnblligifgcjaaGreatDoor
/-
  Requests that came in: measured, taken over, compared.
-/
namespace Go.Proofs.YtmnblligifgcjaaGreatDoor
open Go.ChangeShapes Go.WideShapes Go.ChangeAt Go.RowKit
/-- Lines of the law's own, that may be written. -/
structure QMine (W : World) (B : Nat) (l : List Hdr) : Prop where
  at0 : HeadsAt W B 0 l
  free : ∀ o, W.frozen? ⟨B, o, none⟩ = false
  lt : B < W.heap.size
theorem QMine.keep {W W' : World} {B : Nat} {l : List Hdr} (h : QMine W B l) (hb : Below W.heap.size W W') : QMine W' B l :=
  ⟨h.at0.keep hb, fun o => by rw [hb.frozen (p := ⟨B, o, none⟩) h.lt]; exact h.free o, Nat.lt_of_lt_of_le h.lt hb.size⟩
def szRq (left : Int) (m h p : ByteArray) (l : List Hdr) : Int :=
  if left - (m.size : Int) < 0 then -1 else if left - (m.size : Int) - (h.size : Int) < 0 then -1 else if left - (m.size : Int) - (h.size : Int) - (p.size : Int) < 0 then -1 else
    if szHL (left - (m.size : Int) - (h.size : Int) - (p.size : Int)) l < 0 then -1 else szHL (left - (m.size : Int) - (h.size : Int) - (p.size : Int)) l
theorem szRq_room {left : Int} {m h p : ByteArray} {l : List Hdr} (hl : left ≤ 1048576) (hz : ¬ szRq left m h p l < 0) : m.size ≤ 1048576 ∧ h.size ≤ 1048576 ∧ p.size ≤ 1048576 ∧ l.length ≤ 1048576 ∧ szRq left m h p l ≤ left := by
  unfold szRq at hz ⊢
  by_cases c1 : left - (m.size : Int) < 0
  · rw [if_pos c1] at hz; omega
  rw [if_neg c1] at hz ⊢
  by_cases c2 : left - (m.size : Int) - (h.size : Int) < 0
  · rw [if_pos c2] at hz; omega
  rw [if_neg c2] at hz ⊢
  by_cases c3 : left - (m.size : Int) - (h.size : Int) - (p.size : Int) < 0
  · rw [if_pos c3] at hz; omega
  rw [if_neg c3] at hz ⊢
  by_cases c4 : szHL (left - (m.size : Int) - (h.size : Int) - (p.size : Int)) l < 0
  · rw [if_pos c4] at hz; omega
  rw [if_neg c4] at hz ⊢
  have a := (szHL_room (by omega) c4).1
  have b := szHL_le c4
  exact ⟨by omega, by omega, by omega, by omega, by omega⟩
/-- Four cells of a block, laid out. -/
structure Four (W : World) (B : Nat) (v0 v1 v2 v3 : Value) : Prop where
  c0 : W.cell? ⟨B, 0, none⟩ = some v0
  c1 : W.cell? ⟨B, 1, none⟩ = some v1
  c2 : W.cell? ⟨B, 2, none⟩ = some v2
  c3 : W.cell? ⟨B, 3, none⟩ = some v3
  fr : ∀ o, W.frozen? ⟨B, o, none⟩ = false
  lt : B < W.heap.size
theorem Four.keep {W W' : World} {B : Nat} {v0 v1 v2 v3 : Value} (h : Four W B v0 v1 v2 v3) (hb : Below W.heap.size W W') : Four W' B v0 v1 v2 v3 :=
  ⟨by rw [hb.cell (p := ⟨B, 0, none⟩) h.lt]; exact h.c0, by rw [hb.cell (p := ⟨B, 1, none⟩) h.lt]; exact h.c1, by rw [hb.cell (p := ⟨B, 2, none⟩) h.lt]; exact h.c2, by rw [hb.cell (p := ⟨B, 3, none⟩) h.lt]; exact h.c3,
    fun o => by rw [hb.frozen (p := ⟨B, o, none⟩) h.lt]; exact h.fr o, Nat.lt_of_lt_of_le h.lt hb.size⟩
theorem Four.new (W : World) (v0 v1 v2 v3 : Value) (t : TypeId) : Four (W.alloc (.cells #[v0, v1, v2, v3] t)) W.heap.size v0 v1 v2 v3 :=
  ⟨by rw [World.cell?_alloc_mark]; rfl, by rw [World.cell?_alloc_mark]; rfl, by rw [World.cell?_alloc_mark]; rfl, by rw [World.cell?_alloc_mark]; rfl, fun o => by have e := heap_alloc_new W (.cells #[v0, v1, v2, v3] t); unfold World.frozen?; rw [e]; simp, by simp⟩
end Go.Proofs.YtmnblligifgcjaaGreatDoor
/-
  The draw of a request.
-/
namespace Go.Proofs.YtmnblligifgcjaaGreatDoor
open Go.ChangeShapes Go.WideShapes Go.ChangeAt Go.RowKit
theorem OwnH.put {w : World} {base B o : Nat} {v x : Value} {l : List Hdr} (h : OwnH w base v l) (hB : B < base) : OwnH (w.setCell ⟨B, o, none⟩ x) base v l := by
  obtain ⟨h1, h2⟩ := h
  refine ⟨h1, ?_⟩
  rcases h2 with h2 | ⟨g, c, cur, e, hg, hh, hrest⟩
  · exact .inl h2
  · exact .inr ⟨g, c, cur, e, hg, by rw [setCell_block (by show g ≠ B; omega)]; exact hh, hrest⟩
theorem Four.apart {B : Nat} {W W' : World} {b : Nat} {v0 v1 v2 v3 : Value} (k : Four W b v0 v1 v2 v3) (ha : ApartH B W W') (hn : b ≠ B) : Four W' b v0 v1 v2 v3 :=
  have hc := ha.cells
  ⟨by rw [hc.cell _ _ k.lt hn, k.c0], by rw [hc.cell _ _ k.lt hn, k.c1], by rw [hc.cell _ _ k.lt hn, k.c2], by rw [hc.cell _ _ k.lt hn, k.c3], fun o => by rw [hc.frozen _ _ k.lt hn, k.fr], Nat.lt_of_lt_of_le k.lt ha.size⟩
/-- A drawn request: its texts not long, its lines its own. -/
def SomeReq (base n : Nat) (e : Ending) (w : World) : Prop := ∃ m h p va vc L, e = .returned (.agg #[.string m, .string h, .string p, .slice va (List.length L) vc]) ∧ m.size ≤ 1100 ∧ h.size ≤ 1100 ∧ p.size ≤ 1100 ∧ OwnH w base (.slice va (List.length L) vc) L ∧ L.length ≤ n ∧ SmallH L
set_option maxRecDepth 100000 in
set_option maxHeartbeats 8000000 in
theorem l5Draw_any (w : World) (B : Nat) (a : Option Addr) (len cap k : Nat) (hs : Src w B a len cap k) (hk : k ≤ 900) (hl2 : len ≤ 1048576) :
    Calls Tryz.prog 68 #[.pointer (some ⟨B, 0, none⟩)] w fun e w' => SomeReq (w.heap.size + 1) 5 e w' ∧ (∃ k', k' ≤ k + 104 ∧ Src w' B a len cap k') ∧ Below B w w' ∧ ApartH B w w' := by
  have hlt := hs.lt
  have HS : Hid (Src (w.alloc (.cells #[.string ⟨#[]⟩, .string ⟨#[]⟩, .string ⟨#[]⟩, .slice none 0 0] 42)) B a len cap k) := hs.alloc _
  have HB : Hid (Below B w (w.alloc (.cells #[.string ⟨#[]⟩, .string ⟨#[]⟩, .string ⟨#[]⟩, .slice none 0 0] 42))) := (Below.refl _ _).alloc (by omega) _
  have HA : Hid (ApartH B w (w.alloc (.cells #[.string ⟨#[]⟩, .string ⟨#[]⟩, .string ⟨#[]⟩, .slice none 0 0] 42))) := ApartH.alloc B w _
  have HR : Hid (Four (w.alloc (.cells #[.string ⟨#[]⟩, .string ⟨#[]⟩, .string ⟨#[]⟩, .slice none 0 0] 42)) w.heap.size (.string ⟨#[]⟩) (.string ⟨#[]⟩) (.string ⟨#[]⟩) (.slice none 0 0)) := Four.new w _ _ _ _ _
  have hz : w.heap.size + 1 ≤ (w.alloc (.cells #[.string ⟨#[]⟩, .string ⟨#[]⟩, .string ⟨#[]⟩, .slice none 0 0] 42)).heap.size := by simp
  clear hs
  have H1 := l1Word_h (w.alloc (.cells #[.string ⟨#[]⟩, .string ⟨#[]⟩, .string ⟨#[]⟩, .slice none 0 0] 42)) B a len cap k HS.out ([⟨#[71, 69, 84]⟩, ⟨#[71, 69, 84]⟩, ⟨#[71, 69, 84]⟩, ⟨#[72, 69, 65, 68]⟩] : List ByteArray) 4 rfl (by omega) (by omega) (by omega) hl2
  have ez : (w.alloc (.cells #[.string ⟨#[]⟩, .string ⟨#[]⟩, .string ⟨#[]⟩, .slice none 0 0] 42)).heap.size = w.heap.size + 1 := by simp
  simp only [List.map_cons, List.map_nil, ez] at H1
  clear ez
  go_enter Tryz.func68, Tryz.ntmps68
  go_wp2_with fail
  refine H1.mono ?_
  rintro e w1 ⟨⟨m, hm, rfl⟩, hs1, hb1, ha1⟩
  have hmz := smallH_of hm (by decide)
  have HS1 : Hid (Src w1 B a len cap (k + 1)) := hs1
  have HB1 : Hid (Below B w w1) := HB.out.trans hb1
  have HA1 : Hid (ApartH B w w1) := HA.out.trans ha1
  have HR1 : Hid (Four w1 w.heap.size (.string ⟨#[]⟩) (.string ⟨#[]⟩) (.string ⟨#[]⟩) (.slice none 0 0)) := HR.out.apart ha1 (by omega)
  have hz1 : w.heap.size + 1 ≤ w1.heap.size := Nat.le_trans hz ha1.size
  clear hs1 hb1 ha1 H1 hm HS HB HA HR hz
  have H2 := l1Word_h w1 B a len cap (k + 1) HS1.out ([⟨#[97, 46, 99, 111, 109]⟩, ⟨#[65, 46, 99, 111, 109]⟩, ⟨#[98, 46, 111, 114, 103]⟩] : List ByteArray) 3 rfl (by omega) (by omega) (by omega) hl2
  simp only [List.map_cons, List.map_nil] at H2
  go_wp2_with fail
  refine H2.mono ?_
  rintro e w2 ⟨⟨h, hh, rfl⟩, hs2, hb2, ha2⟩
  have hhz := smallH_of hh (by decide)
  have HS2 : Hid (Src w2 B a len cap (k + 2)) := hs2
  have HB2 : Hid (Below B w w2) := HB1.out.trans hb2
  have HA2 : Hid (ApartH B w w2) := HA1.out.trans ha2
  have HR2 : Hid (Four w2 w.heap.size (.string ⟨#[]⟩) (.string ⟨#[]⟩) (.string ⟨#[]⟩) (.slice none 0 0)) := HR1.out.apart ha2 (by omega)
  have hz2 : w.heap.size + 1 ≤ w2.heap.size := Nat.le_trans hz1 ha2.size
  clear hs2 hb2 ha2 H2 hh HS1 HB1 HA1 HR1 hz1
  have H3 := l1Word_h w2 B a len cap (k + 2) HS2.out ([⟨#[47]⟩, ⟨#[47, 120]⟩, ⟨#[47, 121, 63, 98, 61, 50, 38, 97, 61, 49]⟩, ⟨#[47, 121, 63, 97, 61, 49, 38, 98, 61, 50]⟩, ⟨#[47, 121, 63, 97, 61, 49, 38, 38, 98, 61, 50]⟩, ⟨#[47, 122, 63]⟩, ⟨#[47, 120]⟩] : List ByteArray) 7 rfl (by omega) (by omega) (by omega) hl2
  simp only [List.map_cons, List.map_nil] at H3
  go_wp2_with fail
  refine H3.mono ?_
  rintro e w3 ⟨⟨p, hp, rfl⟩, hs3, hb3, ha3⟩
  have hpz := smallH_of hp (by decide)
  have HS3 : Hid (Src w3 B a len cap (k + 3)) := hs3
  have HB3 : Hid (Below B w w3) := HB2.out.trans hb3
  have HA3 : Hid (ApartH B w w3) := HA2.out.trans ha3
  have HR3 : Hid (Four w3 w.heap.size (.string ⟨#[]⟩) (.string ⟨#[]⟩) (.string ⟨#[]⟩) (.slice none 0 0)) := HR2.out.apart ha3 (by omega)
  have hz3 : w.heap.size + 1 ≤ w3.heap.size := Nat.le_trans hz2 ha3.size
  clear hs3 hb3 ha3 H3 hp HS2 HB2 HA2 HR2 hz2
  have H4 := l1Pick_h w3 B a len cap (k + 3) HS3.out [0, 0, 1, 2] 4 rfl (by omega) (by omega) (by omega) hl2
  simp only [List.map_cons, List.map_nil] at H4
  go_wp2_with fail
  refine H4.mono ?_
  rintro e w4 ⟨⟨n4, hn4, rfl⟩, hs4, hb4, ha4⟩
  obtain ⟨j4, rfl, hj4⟩ : ∃ j : Nat, n4 = (j : Int) ∧ j ≤ 5 := ⟨n4.toNat, by simp at hn4; omega, by simp at hn4; omega⟩
  have HS4 : Hid (Src w4 B a len cap (k + 4)) := hs4
  have HB4 : Hid (Below B w w4) := HB3.out.trans hb4
  have HA4 : Hid (ApartH B w w4) := HA3.out.trans ha4
  have HR4 : Hid (Four w4 w.heap.size (.string ⟨#[]⟩) (.string ⟨#[]⟩) (.string ⟨#[]⟩) (.slice none 0 0)) := HR3.out.apart ha4 (by omega)
  have hz4 : w.heap.size + 1 ≤ w4.heap.size := Nat.le_trans hz3 ha4.size
  clear hs4 hb4 ha4 H4 hn4 HS3 HB3 HA3 HR3 hz3
  go_wp2_with fail
  refine (l4Draw_any w4 B a len cap (k + 4) j4 hj4 HS4.out (by omega) hl2).mono ?_
  rintro e w5 ⟨⟨v5, L, rfl, ho5, hL5, hr5⟩, ⟨k5, hk5, hs5⟩, hb5, ha5⟩
  obtain ⟨va, vc, rfl⟩ := own_len ho5
  have HO5 : Hid (OwnH w5 (w.heap.size + 1) (.slice va L.length vc) L) := ho5.lower hz4
  have HL5 : Hid (SmallH L) := hr5
  have HS5 : Hid (Src w5 B a len cap k5) := hs5
  have HB5 : Hid (Below B w w5) := HB4.out.trans hb5
  have HA5 : Hid (ApartH B w w5) := HA4.out.trans ha5
  have HR5 : Hid (Four w5 w.heap.size (.string ⟨#[]⟩) (.string ⟨#[]⟩) (.string ⟨#[]⟩) (.slice none 0 0)) := HR4.out.apart ha5 (by omega)
  clear ho5 hr5 hs5 hb5 ha5 HS4 HB4 HA4 HR4 hz4
  obtain ⟨r0, r1, r2, r3, rf, rl⟩ := HR5.out
  have rf0 := rf 0
  have rf1 := rf 1
  have rf2 := rf 2
  have rf3 := rf 3
  clear rf rl HR5
  generalize hLn : L.length = ln at *
  go_wp2_with fail
  refine bodyPost_ret (v := .agg #[.string m, .string h, .string p, .slice va ln vc]) ?_ rfl ⟨⟨m, h, p, va, vc, L, by rw [hLn], hmz, hhz, hpz, by rw [hLn]; exact (((HO5.out.put (by omega)).put (by omega)).put (by omega)).put (by omega), by omega, HL5.out⟩, ⟨k5, by omega, HS5.out.below (((((Below.refl (B + 1) _).setCell (by simp; omega) _).setCell (by simp; omega) _).setCell (by simp; omega) _).setCell (by simp; omega) _)⟩, (((HB5.out.setCell (by simp; omega) _).setCell (by simp; omega) _).setCell (by simp; omega) _).setCell (by simp; omega) _, (((HA5.out.hfresh (Nat.le_refl _)).hfresh (Nat.le_refl _)).hfresh (Nat.le_refl _)).hfresh (Nat.le_refl _)⟩
  simp [results, Tryz.results68, go_sem, r0, r1, r2, r3]
end Go.Proofs.YtmnblligifgcjaaGreatDoor
/-
  What isPlain and allPlain answer.
-/
namespace Go.Proofs.YtmnblligifgcjaaGreatDoor
open Go.ChangeShapes Go.WideShapes Go.ChangeAt Go.RowKit
set_option maxHeartbeats 400000 in
theorem iplain_any (c : Int) (w : World) (h0 : 0 ≤ c) (h1 : c < 256) :
    Calls Tryz.prog 84 #[.int .u8 c] w fun e w' => e = .returned (.bool (plainI c)) ∧ w' = w := by
  by_cases e9 : c = 9
  · subst e9
    go_enter Tryz.func84, Tryz.ntmps84
    go_wp2
    go_ret
    exact ⟨rfl, rfl⟩
  · have d9 : (c == 9) = false := by simpa using e9
    by_cases a1 : 32 ≤ c
    · by_cases a2 : c ≤ 126
      · have d2 : decide (c ≤ 126) = true := by simpa using a2
        have HP : Hid (plainI c = true) := by show _ = _; simp [plainI, a1, a2]
        go_enter Tryz.func84, Tryz.ntmps84
        go_wp2
        go_ret
        exact ⟨ret_bool HP.out.symm, rfl⟩
      · have d2 : decide (c ≤ 126) = false := by simpa using a2
        have HP : Hid (plainI c = false) := by show _ = _; simp [plainI, e9]; omega
        go_enter Tryz.func84, Tryz.ntmps84
        go_wp2
        go_ret
        exact ⟨ret_bool HP.out.symm, rfl⟩
    · have HP : Hid (plainI c = false) := by show _ = _; simp [plainI, e9]; omega
      go_enter Tryz.func84, Tryz.ntmps84
      go_wp2
      go_ret
      exact ⟨ret_bool HP.out.symm, rfl⟩
set_option maxHeartbeats 1000000 in
theorem allPlain_any (s : ByteArray) (w : World) (hs : s.size ≤ 1048576) :
    Calls Tryz.prog 69 #[.string s] w fun e w' => e = .returned (.bool (plainL s.data.toList)) ∧ w' = w := by
  go_enter Tryz.func69, Tryz.ntmps69
  go_wp2
  go_loop [6] (fun i => ∃ k : Nat, k ≤ s.size ∧ i = .int .i64 k ∧ plainL (s.data.toList.take k) = true) (fun i => s.size - (intOf i).toNat)
  case atStart => exact ⟨0, Nat.zero_le _, rfl, rfl⟩
  case round =>
    obtain ⟨k, hk, rfl, hall⟩ := hrel
    by_cases hlt : k < s.size
    · have hb : ((s[k].toNat : Nat) : Int) < 256 := by have := s[k].toNat_lt; omega
      cases hw : plainI (s[k].toNat : Int)
      · have HN : Hid (plainL s.data.toList = false) := plainL_not s k hlt hw
        have HW : Hid (plainI (s[k].toNat : Int) = false) := hw
        clear hall hw
        go_wp2_with fail
        refine (iplain_any _ _ (by omega) hb).mono ?_
        rintro e w' ⟨rfl, rfl⟩
        rw [HW.out]
        go_wp2
        go_ret
        exact ⟨ret_bool HN.out.symm, rfl⟩
      · have HA : Hid (plainL (s.data.toList.take (k + 1)) = true) := by
          show _ = _
          rw [take_snoc s k hlt, plainL_snoc, hall, hw]; rfl
        have HW : Hid (plainI (s[k].toNat : Int) = true) := hw
        clear hall hw
        go_wp2_with fail
        refine (iplain_any _ _ (by omega) hb).mono ?_
        rintro e w' ⟨rfl, rfl⟩
        rw [HW.out]
        go_wp2
        go_round
        case rel => exact ⟨k + 1, by omega, by go_num, HA.out⟩
        case measure => simp [intOf]; omega
    · have ek : s.data.toList.take k = s.data.toList := List.take_of_length_le (by simp; omega)
      rw [ek] at hall
      have HN : Hid (plainL s.data.toList = true) := hall
      clear ek hall
      go_wp2
      go_ret
      exact ⟨ret_bool HN.out.symm, rfl⟩
end Go.Proofs.YtmnblligifgcjaaGreatDoor
/-
  What IsWord answers where the table lies in memory as the program lays it.
-/
namespace Go.Proofs.YtmnblligifgcjaaGreatDoor
open Go.ChangeShapes Go.WideShapes Go.ChangeAt Go.RowKit
set_option maxHeartbeats 400000 in
theorem implIsWord_size (s : ByteArray) (w : World) (h : s.size < 1 ∨ 64 < s.size) :
    Calls Tryz.prog 52 #[.string s] w fun e w' => e = .returned (.bool false) ∧ Below w.heap.size w w' := by
  rcases h with h | h
  · have hh : (s.size : Int) < 1 := by omega
    go_enter Tryz.func52, Tryz.ntmps52
    go_wp2
    go_ret
    exact ⟨rfl, Below.refl _ _⟩
  · have hh : (64 : Int) < s.size := by omega
    have h1 : (1 : Int) ≤ s.size := by omega
    have d : decide ((s.size : Int) ≤ 64) = false := by simp; omega
    go_enter Tryz.func52, Tryz.ntmps52
    go_wp2
    go_ret
    exact ⟨rfl, Below.refl _ _⟩
/-- A whole array loaded behind a guard that lets it. -/
theorem wpList_load_row_g {P : Program} {ops : Array Oper} {rest : List Oper} {o : Oper} {a : Act} {w : World} {Q : Exit → Act → World → Prop} (hw : Region.wanted o (yielded ops a.tmps) = true) (ty : TypeId) (x : Operand) (ho : o.op = .load ty x)
    (g : Nat) (hx : a.eval x = .pointer (some ⟨g, 0, none⟩)) (t : TypeId) (cs : Array Value) (fr : Nat × Nat) (d : TypeDesc) (hg : w.heap[g]? = some (.cells cs t fr))
    (hu : P.underlying ty = some d) (hd : (match d with | .struct _ | .array _ _ => true | _ => false) = true) (hi : (P.info? ty).map (·.size) = some cs.size)
    (h : wpList P ops Q rest (a.put o.dst (.agg cs)) w) : wpList P ops Q (o :: rest) a w :=
  wpList_step fun _ hK => by rw [if_pos hw]; exact wp_load_row ty x ho g hx t cs fr d hg hu hd hi (hK _ _ h)
theorem infoSet : (Tryz.prog.info? 115).map (·.size) = some 128 := by kernel_rfl
set_option maxHeartbeats 400000 in
theorem implIsWord_mid (s : ByteArray) (w : World) (cs : Array Value) (tt : TypeId) (fr : Nat × Nat) (h1 : 1 ≤ s.size) (h2 : s.size ≤ 64) (hg : w.heap[0]? = some (.cells cs tt fr)) (hsz : cs.size = 128) (hcs : ∀ i, i < 128 → cs[i]? = some (.bool (wordI (i : Int)))) :
    Calls Tryz.prog 52 #[.string s] w fun e w' => e = .returned (.bool (allW s.data.toList)) ∧ Below w.heap.size w w' := by
  have g1 : (1 : Int) ≤ s.size := by omega
  have d : decide ((s.size : Int) ≤ 64) = true := by simp; omega
  have HG : Hid (w.heap[0]? = some (.cells cs tt fr)) := hg
  have HI : Hid ((Tryz.prog.info? 115).map (·.size) = some cs.size) := by
    show _ = _
    rw [infoSet, hsz]
  have HC : Hid (∀ i, i < 128 → cs[i]? = some (.bool (wordI (i : Int)))) := hcs
  clear hcs hg hsz
  go_enter Tryz.func52, Tryz.ntmps52
  go_wp2_with (refine wpList_load_row_g (by rfl) 115 (.global 0) rfl 0 rfl tt cs fr _ HG.out Tryz.underlying115 rfl HI.out ?_)
  refine (hasOnly_any s cs _ h2 HC.out).mono ?_
  rintro e w1 ⟨rfl, hb⟩
  go_wp2
  go_ret
  exact ⟨rfl, hb⟩
theorem implIsWord_any (s : ByteArray) (w : World) (cs : Array Value) (tt : TypeId) (fr : Nat × Nat) (hg : w.heap[0]? = some (.cells cs tt fr)) (hsz : cs.size = 128) (hcs : ∀ i, i < 128 → cs[i]? = some (.bool (wordI (i : Int)))) :
    Calls Tryz.prog 52 #[.string s] w fun e w' => e = .returned (.bool (wordS s)) ∧ Below w.heap.size w w' := by
  by_cases c : s.size < 1 ∨ 64 < s.size
  · have h : wordS s = false := by
      rcases c with c | c
      · exact wordS_short s c
      · exact wordS_long s c
    rw [h]; exact implIsWord_size s w c
  · rw [wordS_mid s (by omega) (by omega)]
    exact implIsWord_mid s w cs tt fr (by omega) (by omega) hg hsz hcs
end Go.Proofs.YtmnblligifgcjaaGreatDoor
/-
  The law of IsWord out of contracts; what the row's list gives.
-/
namespace Go.Proofs.YtmnblligifgcjaaGreatDoor
open Go.ChangeShapes Go.WideShapes Go.ChangeAt Go.RowKit
/-- An array of bools that reads as a table holds the table, cell for cell. -/
theorem cells_of_bools {H : Type} {enc : TypeId × Value → H} {P : Program} {w : World} {base : Nat} {sp : Nat → Bool} {held : Bool} {fuel : Nat} {t e : TypeId} {n : Nat} {cs : List Value} {zs : List Bool} {p : List MemPlace}
    (ht : P.underlying t = some (.array n e)) (he : P.underlying e = some .bool) (hce : P.cellsOf e = 1) (hct : P.cellsOf t = n)
    (h : DataW.trod enc P w base sp held fuel t cs = some (.agg (zs.map fun z => .lit (.bool z)), p)) : cs = zs.map fun z => Value.bool z := by
  cases fuel with
  | zero => simp [DataW.trod] at h
  | succ fuel =>
    simp only [DataW.trod, ht, hce, hct, Nat.mul_one] at h
    split at h
    · rename_i hl
      obtain ⟨xs, hm, hx⟩ := Option.map_eq_some_iff.1 h
      have hxs : xs.map (·.1) = zs.map fun z => (DataW.lit (.bool z) : DataW H) := by
        have := congrArg Prod.fst hx
        simpa using this
      have hxl : xs.length = n := by simpa using Lib.mapM_length hm
      have hzl : zs.length = n := by
        have := congrArg List.length hxs
        simp at this
        omega
      apply List.ext_getElem?
      intro i
      by_cases hi : i < n
      · obtain ⟨b, hb, hf⟩ := Lib.mapM_at hm i i (by simp [hi])
        obtain ⟨z, hc, rfl⟩ := DataW.trod_bool he hf
        have h1 : cs[i]? = some (.bool z) := by
          have := congrArg (·[0]?) hc
          simpa [List.getElem?_take, List.getElem?_drop] using this
        have h2 : (xs.map (·.1))[i]? = some (DataW.lit (.bool z) : DataW H) := by simp [hb]
        rw [hxs] at h2
        simp only [List.getElem?_map, Option.map_eq_some_iff, DataW.lit.injEq, Lit.bool.injEq] at h2
        obtain ⟨z', hz', rfl⟩ := h2
        simp [h1, hz']
      · rw [List.getElem?_eq_none (by omega), List.getElem?_eq_none (by simp; omega)]
    · cases h
theorem setCells : Tryz.prog.cellsOf 115 = 128 := by kernel_rfl
theorem boolCells : Tryz.prog.cellsOf 4 = 1 := by kernel_rfl
theorem setNamed : Tryz.prog.globalNamed "loop.example/g00665/impl.wordBytes" = some 0 := by kernel_rfl
theorem setType : (Tryz.prog.globals[0]?).map (·.type) = some 115 := by kernel_rfl
theorem laidTab {H : Type} : (Rows.laid_loop_example_g00665_impl_wordBytes : DataW H) = .agg (wordTab.map fun z => .lit (.bool z)) := by kernel_rfl
/-- The table lies in memory. -/
def SetIs (w : World) : Prop := ∃ cs tt fr, w.heap[0]? = some (.cells cs tt fr) ∧ cs.size = 128 ∧ ∀ i, i < 128 → cs[i]? = some (.bool (wordI (i : Int)))
theorem setIs_of {w : World} {rest : List (String × DataW Unit)} (h : laidMet Tryz.prog (("loop.example/g00665/impl.wordBytes", Rows.laid_loop_example_g00665_impl_wordBytes) :: rest) w) : SetIs w := by
  obtain ⟨ps, ⟨g', t', cs, fuel, p, q, hg', ht', hvar, hd, _, _⟩, _⟩ := h
  obtain rfl := Option.some.inj (setNamed.symm.trans hg')
  obtain rfl := Option.some.inj (setType.symm.trans ht')
  rw [laidTab] at hd
  have hcs := cells_of_bools Tryz.underlying115 Tryz.underlying4 boolCells setCells hd
  unfold World.var? at hvar
  rw [setNamed] at hvar
  simp only [Option.bind_some] at hvar
  cases hb : w.heap[0]? with
  | none => rw [hb] at hvar; cases hvar
  | some o =>
    rw [hb] at hvar
    cases o with
    | cells c tt fr =>
      simp only [Option.some.injEq] at hvar
      subst hvar
      have hl : c.toList.length = 128 := by rw [hcs, List.length_map]; exact wordTab_len
      refine ⟨c, tt, fr, hb, by simpa using hl, fun i hi => ?_⟩
      rw [← Array.getElem?_toList, hcs, List.getElem?_map]
      have hi2 : i < wordTab.length := by rw [wordTab_len]; exact hi
      rw [List.getElem?_eq_getElem hi2]
      simp [wordI, hi2]
    | map _ _ => cases hvar
    | _ => cases hvar
theorem SetIs.below {w w' : World} (h : SetIs w) (hb : Below w.heap.size w w') : SetIs w' := by
  obtain ⟨cs, tt, fr, hg, h1, h2⟩ := h
  refine ⟨cs, tt, fr, ?_, h1, h2⟩
  rw [hb.block 0 (Array.getElem?_eq_some_iff.1 hg).1, hg]
theorem implIsWord_set (s : ByteArray) (w : World) (h : SetIs w) :
    Calls Tryz.prog 52 #[.string s] w fun e w' => e = .returned (.bool (wordS s)) ∧ Below w.heap.size w w' := by
  obtain ⟨cs, tt, fr, hg, h1, h2⟩ := h
  exact implIsWord_any s w cs tt fr hg h1 h2
end Go.Proofs.YtmnblligifgcjaaGreatDoor
/-
  What TrimText and its model answer; the law of TrimText out of them.
-/
namespace Go.Proofs.YtmnblligifgcjaaGreatDoor
open Go.ChangeShapes Go.WideShapes Go.ChangeAt Go.RowKit
theorem trimT_size (s : ByteArray) : (trimT s).size ≤ s.size := by
  have h : (Lib.trimS s.data.toList [32, 9]).length ≤ s.data.toList.length := by
    unfold Lib.trimS Lib.trimLeftS Lib.trimRightS
    refine Nat.le_trans (List.dropWhile_sublist _).length_le ?_
    rw [List.length_reverse]
    refine Nat.le_trans (List.dropWhile_sublist _).length_le ?_
    rw [List.length_reverse]
    exact Nat.le_refl _
  have e : (trimT s).size = (Lib.trimS s.data.toList [32, 9]).length := by simp [trimT, ByteArray.size]
  rw [e]
  simpa using h
theorem trim_lib (s : ByteArray) (w : World) (hs : s.size ≤ 1000) :
    Calls Tryz.prog 70 #[.string s, .string ⟨#[32, 9]⟩] w fun e w' => e = .returned (.string (trimT s)) ∧ Below w.heap.size w w' :=
  Any.strings_Trim_laid Tryz.lays160 (by kernel_rfl) s ⟨#[32, 9]⟩ w (by omega) (by decide) (ascii_of_all (by decide))
theorem trim_big (s : ByteArray) (w : World) (hs : s.size ≤ 1048576) :
    Calls Tryz.prog 70 #[.string s, .string ⟨#[32, 9]⟩] w fun e w' => e = .returned (.string (trimT s)) ∧ Below w.heap.size w w' :=
  Any.strings_Trim_laid Tryz.lays160 (by kernel_rfl) s ⟨#[32, 9]⟩ w (by omega) (by decide) (ascii_of_all (by decide))
theorem clone_lib (s : ByteArray) (w : World) (hs : s.size ≤ 1000) :
    Calls Tryz.prog 48 #[.string s] w fun e w' => e = .returned (.string s) ∧ Below w.heap.size w w' :=
  Any.stringslite_Clone Tryz.laysM316 s w (by omega)
set_option maxHeartbeats 400000 in
theorem clone_any (s : ByteArray) (w : World) (hs : s.size ≤ 1000) :
    Calls Tryz.prog 23 #[.string s] w fun e w' => e = .returned (.string s) ∧ Below w.heap.size w w' := by
  go_enter Tryz.func23, Tryz.ntmps23
  go_wp2_with fail
  refine (clone_lib s _ hs).mono ?_
  rintro e w1 ⟨rfl, hb⟩
  go_wp2
  go_ret
  exact ⟨rfl, hb⟩
end Go.Proofs.YtmnblligifgcjaaGreatDoor
