/-
  What the model's ItemFault answers.
-/
import Derived.Test.YtibomkcbopkpkaaDoorItemsAt
import Derived.Test.YtibomkcbopkpkaaDoorWordFns
import Derived.Test.YtibomkcbopkpkaaDoorPlainSpec
namespace Go.Proofs.YtibomkcbopkpkaaDoor
open Go.ChangeShapes Go.WideShapes Go.ChangeAt Go.RowKit
def faultR (r : Rec) : Int := if wordS r.name = false then 5 else if r.has = false ∧ r.value.size ≠ 0 then 1 else if 1000 < r.value.size then 2 else if plainL r.value.data.toList = false then 5 else 0
theorem empty_str {v : ByteArray} (h : v.size = 0) : v = ⟨#[]⟩ := by
  apply ByteArray.ext
  exact Array.eq_empty_of_size_eq_zero h
theorem str_empty {v : ByteArray} (h : v.size ≠ 0) : v.toList.isEmpty = false := by
  rw [ByteArray.toList_eq]
  cases hh : v.data.toList with
  | nil => exact absurd (by have := congrArg List.length hh; simpa using this) h
  | cons c r => rfl
set_option maxHeartbeats 2000000 in
theorem specFault_any (r : Rec) (w : World) :
    Calls Tryd.prog 80 #[.agg #[.string r.name, .bool r.has, .string r.value]] w fun e w' => e = .returned (.int .i64 (faultR r)) ∧ Below w.heap.size w w' := by
  obtain ⟨n, h, v⟩ := r
  simp only
  have kb : Below w.heap.size w (w.alloc (.cells #[.string n, .bool h, .string v] 80)) := (Below.refl _ _).alloc (Nat.le_refl _) _
  have KB : Hid (Below w.heap.size w (w.alloc (.cells #[.string n, .bool h, .string v] 80))) := kb
  clear kb
  have HW : Hid (∀ w, Calls Tryd.prog 15 #[.string n] w fun e w' => e = .returned (.bool (wordS n)) ∧ w' = w) := specIsWord_any n
  cases hw : wordS n
  · have HE : Hid (faultR ⟨n, h, v⟩ = 5) := by show _ = _; simp [faultR, hw]
    rw [hw] at HW
    clear hw
    go_enter Tryd.func80, Tryd.ntmps80
    go_wp2_with fail
    refine (HW.out _).mono ?_
    rintro e w1 ⟨rfl, rfl⟩
    go_wp2_with fail
    go_ret
    exact ⟨ret_int HE.out.symm, KB.out⟩
  rw [hw] at HW
  by_cases hv : h = false ∧ v.size ≠ 0
  · have HE : Hid (faultR ⟨n, h, v⟩ = 1) := by show _ = _; simp only [faultR, hw]; rw [if_neg (by simp), if_pos hv]
    obtain ⟨rfl, hv⟩ := hv
    have hm := str_empty hv
    clear hw hv
    go_enter Tryd.func80, Tryd.ntmps80
    go_wp2_with fail
    refine (HW.out _).mono ?_
    rintro e w1 ⟨rfl, rfl⟩
    go_wp2_with fail
    go_ret
    exact ⟨ret_int HE.out.symm, KB.out⟩
  · have HV : Hid (¬ (h = false ∧ v.size ≠ 0)) := hv
    have two : h = true ∨ (h = false ∧ v = ⟨#[]⟩) := by
      cases h
      · right
        exact ⟨rfl, empty_str (by simpa using hv)⟩
      · exact .inl rfl
    clear hv
    by_cases hbig : 1000 < v.size
    · have HE : Hid (faultR ⟨n, h, v⟩ = 2) := by show _ = _; simp only [faultR, hw]; rw [if_neg (by simp), if_neg HV.out, if_pos hbig]
      have g : (1000 : Int) < v.size := by omega
      rcases two with rfl | ⟨_, rfl⟩
      · clear hw HV
        go_enter Tryd.func80, Tryd.ntmps80
        go_wp2_with fail
        refine (HW.out _).mono ?_
        rintro e w1 ⟨rfl, rfl⟩
        go_wp2_with fail
        go_ret
        exact ⟨ret_int HE.out.symm, KB.out⟩
      · exact absurd hbig (by decide)
    · have g : ¬ (1000 : Int) < v.size := by omega
      have HP : Hid (∀ w, Calls Tryd.prog 126 #[.string v] w fun e w' => e = .returned (.bool (plainL v.data.toList)) ∧ w' = w) := fun w => plainText_any v w (by omega)
      cases hp : plainL v.data.toList
      · have HE : Hid (faultR ⟨n, h, v⟩ = 5) := by show _ = _; simp only [faultR, hw]; rw [if_neg (by simp), if_neg HV.out, if_neg hbig, if_pos hp]
        rw [hp] at HP
        rcases two with rfl | ⟨_, rfl⟩
        · clear hw hp HV hbig
          go_enter Tryd.func80, Tryd.ntmps80
          go_wp2_with fail
          refine (HW.out _).mono ?_
          rintro e w1 ⟨rfl, rfl⟩
          go_wp2_with fail
          refine (HP.out _).mono ?_
          rintro e w1 ⟨rfl, rfl⟩
          go_wp2_with fail
          go_ret
          exact ⟨ret_int HE.out.symm, KB.out⟩
        · exact absurd hp (by decide)
      · have HE : Hid (faultR ⟨n, h, v⟩ = 0) := by show _ = _; simp only [faultR, hw]; rw [if_neg (by simp), if_neg HV.out, if_neg hbig, if_neg (by simp [hp])]
        rw [hp] at HP
        rcases two with rfl | ⟨rfl, rfl⟩
        all_goals
          clear hw hp HV hbig
          go_enter Tryd.func80, Tryd.ntmps80
          go_wp2_with fail
          refine (HW.out _).mono ?_
          rintro e w1 ⟨rfl, rfl⟩
          go_wp2_with fail
          refine (HP.out _).mono ?_
          rintro e w1 ⟨rfl, rfl⟩
          go_wp2_with fail
          go_ret
          exact ⟨ret_int HE.out.symm, KB.out⟩
end Go.Proofs.YtibomkcbopkpkaaDoor
