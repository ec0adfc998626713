/-
  Lists of items in memory; the laws' own helpers over them.
-/
import Derived.Test.YtibomkcbopkpkaiDoorBase
import Derived.Deep.Slices
import Derived.Deep.Strs
namespace Go.Proofs.YtibomkcbopkpkaiDoor
open Go.ChangeShapes Go.WideShapes Go.ChangeAt Go.RowKit
/-- An item: its name, whether it has a value, the value. -/
structure Rec where
  name : ByteArray
  has : Bool
  value : ByteArray
/-- The items l lie in block b from off on, three cells each. -/
def ItemsAt (w : World) (b off : Nat) (l : List Rec) : Prop :=
  ∀ (i : Nat) r, l[i]? = some r → w.cell? ⟨b, off + i * 3, none⟩ = some (.string r.name) ∧ w.cell? ⟨b, off + i * 3 + 1, none⟩ = some (.bool r.has) ∧ w.cell? ⟨b, off + i * 3 + 2, none⟩ = some (.string r.value)
def recV (r : Rec) : Value := .agg #[.string r.name, .bool r.has, .string r.value]
def szR (left : Int) (r : Rec) : Int := if left - (r.name.size : Int) < 0 then -1 else if left - (r.name.size : Int) - (r.value.size : Int) < 0 then -1 else left - (r.name.size : Int) - (r.value.size : Int)
set_option maxHeartbeats 400000 in
theorem szItem_any (r : Rec) (left : Int) (w : World) (h0 : 0 ≤ left) (h1 : left ≤ 1048576) (z1 : r.name.size ≤ maxLen) (z2 : r.value.size ≤ maxLen) :
    Calls Tryd.prog 7 #[.agg #[.string r.name, .bool r.has, .string r.value], .int .i64 left] w fun e w' => e = .returned (.int .i64 (szR left r)) ∧ Below w.heap.size w w' := by
  unfold maxLen at z1 z2
  obtain ⟨n, h, v⟩ := r
  simp only at z1 z2 ⊢
  by_cases c1 : left - (n.size : Int) < 0
  · have HE : Hid (szR left ⟨n, h, v⟩ = -1) := by show _ = _; simp [szR, c1]
    go_enter Tryd.func7, Tryd.ntmps7
    go_wp2
    go_ret
    exact ⟨ret_int HE.out.symm, (Below.refl _ _).alloc (Nat.le_refl _) _⟩
  · by_cases c2 : left - (n.size : Int) - (v.size : Int) < 0
    · have HE : Hid (szR left ⟨n, h, v⟩ = -1) := by show _ = _; simp [szR, c1, c2]
      go_enter Tryd.func7, Tryd.ntmps7
      go_wp2
      go_ret
      exact ⟨ret_int HE.out.symm, (Below.refl _ _).alloc (Nat.le_refl _) _⟩
    · have HE : Hid (szR left ⟨n, h, v⟩ = left - (n.size : Int) - (v.size : Int)) := by show _ = _; simp [szR, c1, c2]
      go_enter Tryd.func7, Tryd.ntmps7
      go_wp2
      go_ret
      exact ⟨ret_int HE.out.symm, (Below.refl _ _).alloc (Nat.le_refl _) _⟩
set_option maxHeartbeats 400000 in
theorem toItem_any (r : Rec) (w : World) :
    Calls Tryd.prog 9 #[.agg #[.string r.name, .bool r.has, .string r.value]] w fun e w' => e = .returned (.agg #[.string r.name, .bool r.has, .string r.value]) ∧ Below w.heap.size w w' := by
  obtain ⟨n, h, v⟩ := r
  simp only
  go_enter Tryd.func9, Tryd.ntmps9
  go_wp2
  exact bodyPost_ret (v := .agg #[.string n, .bool h, .string v]) (by simp [results, Tryd.results9, go_sem]) rfl ⟨rfl, (((Below.refl _ _).alloc (Nat.le_refl _) _).alloc (by simp) _).alloc (by simp; omega) _⟩
set_option maxHeartbeats 400000 in
theorem eqItem_same (r : Rec) (w : World) :
    Calls Tryd.prog 37 #[.agg #[.string r.name, .bool r.has, .string r.value], .agg #[.string r.name, .bool r.has, .string r.value]] w fun e w' => e = .returned (.bool true) ∧ Below w.heap.size w w' := by
  obtain ⟨n, h, v⟩ := r
  simp only
  go_enter Tryd.func37, Tryd.ntmps37
  go_wp2
  go_ret
  exact ⟨rfl, ((Below.refl _ _).alloc (Nat.le_refl _) _).alloc (by simp) _⟩
/-- How much room is left behind the items; -1: none. -/
def szRs (left : Int) : List Rec → Int
  | [] => left
  | r :: l => if szR left r < 0 then -1 else szRs (szR left r) l
def szL (left : Int) (l : List Rec) : Int := if left - (l.length : Int) < 0 then -1 else szRs (left - (l.length : Int)) l
def SmallRecs (l : List Rec) : Prop := ∀ (i : Nat) r, l[i]? = some r → r.name.size ≤ maxLen ∧ r.value.size ≤ maxLen
theorem ItemsAt.keep {w w' : World} {b off : Nat} {l : List Rec} (h : ItemsAt w b off l) (hb : Below w.heap.size w w') : ItemsAt w' b off l := by
  intro i r hr
  obtain ⟨a1, a2, a3⟩ := h i r hr
  exact ⟨by rw [hb.cell (block_lt_of_cell a1)]; exact a1, by rw [hb.cell (block_lt_of_cell a2)]; exact a2, by rw [hb.cell (block_lt_of_cell a3)]; exact a3⟩
theorem szR_le (left : Int) (r : Rec) : szR left r ≤ left ∨ szR left r = -1 := by
  unfold szR
  split
  · exact .inr rfl
  · split
    · exact .inr rfl
    · left; omega
theorem drop_rec (l : List Rec) (k : Nat) (r : Rec) (h : l[k]? = some r) : l.drop k = r :: l.drop (k + 1) := by
  obtain ⟨hk, rfl⟩ := List.getElem?_eq_some_iff.1 h
  exact List.drop_eq_getElem_cons hk
set_option maxHeartbeats 2000000 in
theorem szItemS_any (w : World) (a : Option Addr) (cap : Nat) (l : List Rec) (hl : l.length ≤ maxLen) (hi : l = [] ∨ ∃ b off, a = some ⟨b, off, none⟩ ∧ ItemsAt w b off l) (hz : SmallRecs l) (left : Int) (h0 : 0 ≤ left) (h1 : left ≤ 1048576) :
    Calls Tryd.prog 16 #[.slice a l.length cap, .int .i64 left] w fun e w' => e = .returned (.int .i64 (szL left l)) ∧ Below w.heap.size w w' := by
  unfold maxLen at hl
  have HI : Hid (l = [] ∨ ∃ b off, a = some ⟨b, off, none⟩ ∧ ItemsAt w b off l) := hi
  have HZ : Hid (SmallRecs l) := hz
  clear hi hz
  generalize hn : l.length = n at *
  have HN : Hid (l.length = n) := hn
  by_cases c0 : left - (n : Int) < 0
  · have HE : Hid (szL left l = -1) := by show _ = _; unfold szL; rw [hn, if_pos c0]
    clear hn
    go_enter Tryd.func16, Tryd.ntmps16
    go_wp2
    go_ret
    exact ⟨ret_int HE.out.symm, Below.refl _ _⟩
  have HE : Hid (szL left l = szRs (left - (n : Int)) l) := by show _ = _; unfold szL; rw [hn, if_neg c0]
  have c0' : 0 ≤ left - (n : Int) := by omega
  clear hn
  go_enter Tryd.func16, Tryd.ntmps16
  go_wp2_with fail
  go_loopw [1, 5] (fun x i wr => ∃ (k : Nat) (c : Int), k ≤ n ∧ i = .int .i64 k ∧ x = .int .i64 c ∧ 0 ≤ c ∧ c ≤ 1048576 ∧ szL left l = szRs c (l.drop k) ∧ Below w.heap.size w wr) (fun _ i _ => n - (intOf i).toNat)
  case atStart => exact ⟨0, left - (n : Int), Nat.zero_le _, rfl, rfl, c0', by omega, HE.out, Below.refl _ _⟩
  case round =>
    obtain ⟨k, c, hk, rfl, rfl, c2, c3, hs, hb⟩ := hrel
    have HS : Hid (szL left l = szRs c (l.drop k)) := hs
    clear hs HE
    by_cases hlt : k < n
    · obtain ⟨r, hr⟩ : ∃ r, l[k]? = some r := ⟨l[k]'(by have := HN.out; omega), List.getElem?_eq_getElem _⟩
      rcases HI.out with h | ⟨b, off, rfl, hat⟩
      · subst h; simp at hr
      obtain ⟨p1, p2, p3⟩ := (hat.keep hb) k r hr
      obtain ⟨z1, z2⟩ := HZ.out k r hr
      have HS2 : Hid (szL left l = if szR c r < 0 then -1 else szRs (szR c r) (l.drop (k + 1))) := by
        show _ = _
        rw [HS.out, drop_rec l k r hr, szRs]
      have HC : Hid (∀ w, Calls Tryd.prog 7 #[.agg #[.string r.name, .bool r.has, .string r.value], .int .i64 c] w fun e w' => e = .returned (.int .i64 (szR c r)) ∧ Below w.heap.size w w') := fun w => szItem_any r c w c2 c3 z1 z2
      have hle := szR_le c r
      have g : (k : Int) < n := by omega
      clear HS hr hat z1 z2 HI
      generalize szR c r = d at *
      generalize r.name = rn at *
      generalize r.has = rh at *
      generalize r.value = rv at *
      go_wp2_with fail
      refine (HC.out _).mono ?_
      rintro e w2 ⟨rfl, hb2⟩
      have hbb : Below w.heap.size w w2 := hb.trans (hb2.mono hb.size)
      clear hb2 hb p1 p2 p3 HC
      by_cases hd : d < 0
      · have HF : Hid (szL left l = -1) := by show _ = _; rw [HS2.out, if_pos hd]
        clear HS2
        go_wp2_with fail
        go_ret
        exact ⟨ret_int HF.out.symm, hbb⟩
      · have HF : Hid (szL left l = szRs d (l.drop (k + 1))) := by show _ = _; rw [HS2.out, if_neg hd]
        clear HS2
        go_wp2_with fail
        go_roundw
        case rel => exact ⟨k + 1, d, by omega, by go_num, rfl, by omega, by omega, HF.out, hbb⟩
        case measure => simp [intOf]; omega
    · have HF : Hid (szL left l = c) := by
        show _ = _
        rw [HS.out, List.drop_of_length_le (by have := HN.out; omega), szRs]
      clear HS
      go_wp2_with fail
      go_ret
      exact ⟨ret_int HF.out.symm, hb⟩
end Go.Proofs.YtibomkcbopkpkaiDoor
