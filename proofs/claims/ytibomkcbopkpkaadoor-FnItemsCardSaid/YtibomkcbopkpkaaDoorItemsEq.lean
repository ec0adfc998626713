/-
  The laws' comparing of two lists of items that are alike; what the model's l2Find and FindItem answer.
-/
import Derived.Test.YtibomkcbopkpkaaDoorItemsSame
import Derived.Test.YtibomkcbopkpkaaDoorLowS
import Derived.Test.YtibomkcbopkpkaaDoorWordFns
namespace Go.Proofs.YtibomkcbopkpkaaDoor
open Go.ChangeShapes Go.WideShapes Go.ChangeAt Go.RowKit Go.Sort
theorem str_ne {a b : ByteArray} (h : a ≠ b) : (a.toList == b.toList) = false := by
  rw [beq_eq_false_iff_ne]
  intro e
  rw [ByteArray.toList_eq, ByteArray.toList_eq] at e
  exact h (ByteArray.ext (Array.ext' e))
/-- The place of the first item of that name, small and large letters alike; -1: there is none. -/
def findR (name : ByteArray) (k : Nat) : List Rec → Int
  | [] => -1
  | r :: l => if lowS r.name = lowS name then (k : Int) else findR name (k + 1) l
def lowSame (a b : ByteArray) : Bool := decide (lowS a = lowS b)
def ShortNames (l : List Rec) : Prop := ∀ (i : Nat) r, l[i]? = some r → r.name.size ≤ 1048576
set_option maxHeartbeats 2000000 in
theorem l2Find_any (w : World) (a : Option Addr) (cap : Nat) (l : List Rec) (name : ByteArray) (hl : l.length ≤ 1048576) (hnm : name.size ≤ 1048576) (hs : ShortNames l) (hi : l = [] ∨ ∃ b off, a = some ⟨b, off, none⟩ ∧ ItemsAt w b off l) :
    Calls Tryd.prog 83 #[.slice a l.length cap, .string name] w fun e w' => e = .returned (.int .i64 (findR name 0 l)) ∧ Below w.heap.size w w' := by
  have HI : Hid (l = [] ∨ ∃ b off, a = some ⟨b, off, none⟩ ∧ ItemsAt w b off l) := hi
  have HS : Hid (ShortNames l) := hs
  clear hi hs
  generalize hn : l.length = n at *
  have HN : Hid (l.length = n) := hn
  clear hn
  go_enter Tryd.func83, Tryd.ntmps83
  go_wp2_with fail
  go_loopw [5] (fun i wr => ∃ k : Nat, k ≤ n ∧ i = .int .i64 k ∧ findR name 0 l = findR name k (l.drop k) ∧ Below w.heap.size w wr) (fun i _ => n - (intOf i).toNat)
  case atStart => exact ⟨0, Nat.zero_le _, rfl, rfl, Below.refl _ _⟩
  case round =>
    obtain ⟨k, hk, rfl, hf, hb⟩ := hrel
    have HF : Hid (findR name 0 l = findR name k (l.drop k)) := hf
    clear hf
    by_cases hlt : k < n
    · obtain ⟨r, hr⟩ : ∃ r, l[k]? = some r := ⟨l[k]'(by have := HN.out; omega), List.getElem?_eq_getElem _⟩
      rcases HI.out with h | ⟨b, off, rfl, hat⟩
      · subst h; simp at hr
      obtain ⟨p1, _, _⟩ := (hat.keep hb) k r hr
      have hrz := HS.out k r hr
      have HG : Hid (findR name 0 l = if lowS r.name = lowS name then (k : Int) else findR name (k + 1) (l.drop (k + 1))) := by
        show _ = _
        rw [HF.out, drop_rec l k r hr, findR]
      have g : (k : Int) < n := by omega
      clear HF hr hat HI
      generalize r.name = rn at *
      go_wp2_with fail
      refine (l1Lower_any rn _ hrz).mono ?_
      rintro e w2 ⟨rfl, hb2⟩
      go_wp2_with fail
      refine (l1Lower_any name _ hnm).mono ?_
      rintro e w3 ⟨rfl, hb3⟩
      have hbb : Below w.heap.size w w3 := hb.trans ((hb2.mono hb.size).trans (hb3.mono (Nat.le_trans hb.size hb2.size)))
      clear hb hb2 hb3 p1
      by_cases he : lowS rn = lowS name
      · have HE : Hid (findR name 0 l = (k : Int)) := by show _ = _; rw [HG.out, if_pos he]
        rw [he]
        clear he HG
        generalize lowS name = q at *
        go_wp2_with fail
        go_ret
        exact ⟨ret_int HE.out.symm, hbb⟩
      · have HE : Hid (findR name 0 l = findR name (k + 1) (l.drop (k + 1))) := by show _ = _; rw [HG.out, if_neg he]
        have hq := str_ne he
        clear he HG
        generalize lowS rn = q1 at *
        generalize lowS name = q2 at *
        go_wp2_with fail
        go_roundw
        case rel => exact ⟨k + 1, by omega, by go_num, HE.out, hbb⟩
        case measure => simp [intOf]; omega
    · have HE : Hid (findR name 0 l = -1) := by
        show _ = _
        rw [HF.out, List.drop_of_length_le (by have := HN.out; omega), findR]
      clear HF
      go_wp2_with fail
      go_ret
      exact ⟨ret_int HE.out.symm, hb⟩
theorem int_room {w w1 : World} (hb : Below (w.heap.size + 1) (w.alloc (.cells #[.int .i64 0, .int .i64 0] 32)) w1) :
    w.heap.size < w1.heap.size ∧ w1.cell? ⟨w.heap.size, 0, none⟩ = some (.int .i64 0) ∧ w1.cell? ⟨w.heap.size, 1, none⟩ = some (.int .i64 0) ∧ w1.frozen? ⟨w.heap.size, 0, none⟩ = false ∧ w1.frozen? ⟨w.heap.size, 1, none⟩ = false ∧ Below w.heap.size w w1 := by
  have hz := hb.size
  simp only [World.size_alloc] at hz
  exact ⟨hz, by rw [hb.cell (p := ⟨w.heap.size, 0, none⟩) (Nat.lt_succ_self _)]; simp, by rw [hb.cell (p := ⟨w.heap.size, 1, none⟩) (Nat.lt_succ_self _)]; simp, by rw [hb.frozen (p := ⟨w.heap.size, 0, none⟩) (Nat.lt_succ_self _)]; simp, by rw [hb.frozen (p := ⟨w.heap.size, 1, none⟩) (Nat.lt_succ_self _)]; simp, ((Below.refl _ _).alloc (Nat.le_refl _) _).trans (hb.mono (Nat.le_succ _))⟩
def findC (l : List Rec) (name : ByteArray) : Int := if 20 < l.length then 2 else if wordS name = true then (if findR name 0 l < 0 then 4 else 0) else 5
def findV (l : List Rec) (name : ByteArray) : Int := if findC l name = 0 then findR name 0 l else 0
set_option maxHeartbeats 1000000 in
theorem specFind_any (w : World) (a : Option Addr) (cap : Nat) (l : List Rec) (name : ByteArray) (hl : l.length ≤ 1048576) (hnm : name.size ≤ 1048576) (hs : ShortNames l) (hi : l = [] ∨ ∃ b off, a = some ⟨b, off, none⟩ ∧ ItemsAt w b off l) :
    Calls Tryd.prog 35 #[.slice a l.length cap, .string name] w fun e w' => e = .returned (.agg #[.int .i64 (findC l name), .int .i64 (findV l name)]) ∧ Below w.heap.size w w' := by
  have HF : Hid (∀ W, Below w.heap.size w W → Calls Tryd.prog 83 #[.slice a l.length cap, .string name] W fun e w' => e = .returned (.int .i64 (findR name 0 l)) ∧ Below W.heap.size W w') := by
    intro W hb
    refine l2Find_any W a cap l name hl hnm hs ?_
    rcases hi with h | ⟨b, off, e, hat⟩
    · exact .inl h
    · exact .inr ⟨b, off, e, hat.keep hb⟩
  clear hi hs
  by_cases h20 : 20 < l.length
  · have ec : findC l name = 2 := by simp [findC, h20]
    have ev : findV l name = 0 := by simp [findV, ec]
    rw [ec, ev]
    have g : (20 : Int) < (l.length : Int) := by omega
    clear ec ev HF
    go_enter Tryd.func35, Tryd.ntmps35
    go_wp2
    exact bodyPost_ret (v := .agg #[.int .i64 2, .int .i64 0]) (by simp [results, Tryd.results35, go_sem]) rfl ⟨rfl, (Below.refl _ _).alloc (Nat.le_refl _) _⟩
  have g : ¬ (20 : Int) < (l.length : Int) := by omega
  cases hw : wordS name
  · have ec : findC l name = 5 := by simp [findC, h20, hw]
    have ev : findV l name = 0 := by simp [findV, ec]
    rw [ec, ev]
    have HW : Hid (wordS name = false) := hw
    clear ec ev HF hw
    go_enter Tryd.func35, Tryd.ntmps35
    go_wp2_with fail
    refine (specIsWord_any name _).mono ?_
    rintro e w1 ⟨rfl, rfl⟩
    rw [HW.out]
    go_wp2
    exact bodyPost_ret (v := .agg #[.int .i64 5, .int .i64 0]) (by simp [results, Tryd.results35, go_sem]) rfl ⟨rfl, (Below.refl _ _).alloc (Nat.le_refl _) _⟩
  · have HW : Hid (wordS name = true) := hw
    by_cases hn : findR name 0 l < 0
    · have ec : findC l name = 4 := by simp [findC, h20, hw, hn]
      have ev : findV l name = 0 := by simp [findV, ec]
      rw [ec, ev]
      clear ec ev hw
      go_enter Tryd.func35, Tryd.ntmps35
      go_wp2_with fail
      refine (specIsWord_any name _).mono ?_
      rintro e w1 ⟨rfl, rfl⟩
      rw [HW.out]
      go_wp2_with fail
      refine (HF.out _ ((Below.refl _ _).alloc (Nat.le_refl _) _)).mono ?_
      rintro e w1 ⟨rfl, hb⟩
      simp only [World.size_alloc] at hb
      obtain ⟨hz, p0, p1, f0, f1, kb⟩ := int_room hb
      obtain ⟨q0, q1⟩ := two_set (v0 := .int .i64 4) (v1 := .int .i64 0) p0 p1
      clear hb
      generalize findR name 0 l = x at *
      go_wp2
      exact bodyPost_ret (v := .agg #[.int .i64 4, .int .i64 0]) (by simp [results, Tryd.results35, go_sem, q0, q1]) rfl ⟨rfl, (kb.setCell (Nat.le_refl _) _).setCell (Nat.le_refl _) _⟩
    · have ec : findC l name = 0 := by simp [findC, h20, hw, hn]
      have ev : findV l name = findR name 0 l := by simp [findV, ec]
      rw [ec, ev]
      clear ec ev hw
      go_enter Tryd.func35, Tryd.ntmps35
      go_wp2_with fail
      refine (specIsWord_any name _).mono ?_
      rintro e w1 ⟨rfl, rfl⟩
      rw [HW.out]
      go_wp2_with fail
      refine (HF.out _ ((Below.refl _ _).alloc (Nat.le_refl _) _)).mono ?_
      rintro e w1 ⟨rfl, hb⟩
      simp only [World.size_alloc] at hb
      obtain ⟨hz, p0, p1, f0, f1, kb⟩ := int_room hb
      clear hb HF
      generalize hx : findR name 0 l = x at *
      have HX : Hid (x = findR name 0 l) := hx.symm
      clear hx
      obtain ⟨q0, q1⟩ := two_set (v0 := .int .i64 0) (v1 := .int .i64 x) p0 p1
      go_wp2
      exact bodyPost_ret (v := .agg #[.int .i64 0, .int .i64 x]) (by simp [results, Tryd.results35, go_sem, q0, q1]) rfl ⟨by rw [HX.out], (kb.setCell (Nat.le_refl _) _).setCell (Nat.le_refl _) _⟩
end Go.Proofs.YtibomkcbopkpkaaDoor
