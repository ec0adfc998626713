/-
  strings.Cut at a sign that stands alone.
-/
import Derived.Test.YtibomkcbopkpkaaDoorReadPlain
import Derived.Test.YtibomkcbopkpkaaDoorFields
import Derived.Test.YtibomkcbopkpkaaDoorShelf
namespace Go.Proofs.YtibomkcbopkpkaaDoor
open Go.ChangeShapes Go.WideShapes Go.ChangeAt Go.RowKit Go.Sort
theorem idx_eq : ∀ l : List UInt8, Lib.indexByte l 61 = if eqAt l < l.length then (eqAt l : Int) else -1
  | [] => by simp [Lib.indexByte, eqAt]
  | c :: r => by
    have ih := idx_eq r
    rw [Lib.indexByte, eqAt]
    by_cases h : (c.toNat : Int) = 61
    · have hc : c = 61 := UInt8.toNat_inj.1 (by simpa using (by omega : c.toNat = 61))
      rw [if_pos (by rw [hc]; rfl), if_pos h]
      simp
    · have hc : ¬ (c == 61) = true := by
        intro e
        have e2 : c = 61 := by simpa using e
        rw [e2] at h
        exact h rfl
      rw [if_neg hc, if_neg h, ih]
      by_cases q : eqAt r < r.length
      · have e1 : ¬ ((eqAt r : Int) == -1) = true := by simp
        rw [if_pos q, if_neg e1, if_pos (by simp only [List.length_cons]; omega)]
        omega
      · rw [if_neg q, if_pos (by rfl), if_neg (by simp only [List.length_cons]; omega)]
theorem index_lib (s : ByteArray) (w : World) :
    Calls Tryd.prog 175 #[.string s, .string ⟨#[61]⟩] w fun e w' => e = .returned (.int .i64 (Lib.indexByte s.data.toList 61)) ∧ w' = w :=
  Any.stringslite_Index_one Tryd.lays219 s 61 w
set_option maxRecDepth 100000 in
set_option maxHeartbeats 2000000 in
theorem cut_yes (s : ByteArray) (w : World) (hs : s.size ≤ 1000) (h : eqAt s.data.toList < s.size) :
    Calls Tryd.prog 167 #[.string s, .string ⟨#[61]⟩] w fun e w' => e = .returned (.tuple #[.string (s.extract 0 (eqAt s.data.toList)), .string (s.extract (eqAt s.data.toList + 1) s.size), .bool true]) ∧ Below w.heap.size w w' := by
  have HI := index_lib s w
  rw [idx_eq, if_pos (by rw [size_list]; exact h)] at HI
  generalize eqAt s.data.toList = k at *
  have g0 : (0 : Int) ≤ k := by omega
  have g1 : (k : Int) ≤ s.size := by omega
  have g2 : (k : Int) + 1 ≤ s.size := by omega
  go_enter Tryd.func167, Tryd.ntmps167
  go_wp2_with fail
  refine HI.mono ?_
  rintro e w1 ⟨rfl, rfl⟩
  go_wp2_with fail
  refine wp_region_quiet_below (by kernel_rfl) (by kernel_rfl) ?_
  repeat (go_big_quiet_step (fail))
  refine wpQuiet_nil ?_
  intro W2 hW2
  have hbW2 : Below w1.heap.size w1 W2 := by
    obtain ⟨⟨d, os⟩, rfl⟩ := hW2
    exact below_regrown w1 d os
  clear hW2
  go_wp2_with fail
  exact bodyPost_ret (v := .tuple #[.string (s.extract 0 k), .string (s.extract (k + 1) s.size), .bool true]) (by simp [results, Tryd.results167, go_sem]) rfl ⟨rfl, hbW2⟩
set_option maxHeartbeats 2000000 in
theorem cut_no (s : ByteArray) (w : World) (h : ¬ eqAt s.data.toList < s.size) :
    Calls Tryd.prog 167 #[.string s, .string ⟨#[61]⟩] w fun e w' => e = .returned (.tuple #[.string s, .string ⟨#[]⟩, .bool false]) ∧ Below w.heap.size w w' := by
  have HI := index_lib s w
  rw [idx_eq, if_neg (by rw [size_list]; exact h)] at HI
  go_enter Tryd.func167, Tryd.ntmps167
  go_wp2_with fail
  refine HI.mono ?_
  rintro e w1 ⟨rfl, rfl⟩
  go_wp2_with fail
  exact bodyPost_ret (v := .tuple #[.string s, .string ⟨#[]⟩, .bool false]) (by simp [results, Tryd.results167, go_sem]) rfl ⟨rfl, Below.refl _ _⟩
set_option maxHeartbeats 2000000 in
theorem cutS_of (s : ByteArray) (w : World) (a b : ByteArray) (h : Bool) (hc : Calls Tryd.prog 167 #[.string s, .string ⟨#[61]⟩] w fun e w' => e = .returned (.tuple #[.string a, .string b, .bool h]) ∧ Below w.heap.size w w') :
    Calls Tryd.prog 150 #[.string s, .string ⟨#[61]⟩] w fun e w' => e = .returned (.tuple #[.string a, .string b, .bool h]) ∧ Below w.heap.size w w' := by
  go_enter Tryd.func150, Tryd.ntmps150
  go_wp2_with fail
  refine hc.mono ?_
  rintro e w1 ⟨rfl, hb⟩
  go_wp2_with fail
  exact bodyPost_ret (v := .tuple #[.string a, .string b, .bool h]) (by simp [results, Tryd.results150, go_sem]) rfl ⟨rfl, hb⟩
end Go.Proofs.YtibomkcbopkpkaaDoor
