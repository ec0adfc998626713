/-
  What ItemFault answers.
-/
import Derived.Test.YtibomkcbopkpkaaDoorItemFaultSpec
import Derived.Test.YtibomkcbopkpkaaDoorPlainImpl
import Derived.Test.YtibomkcbopkpkaaDoorWordLaid
namespace Go.Proofs.YtibomkcbopkpkaaDoor
open Go.ChangeShapes Go.WideShapes Go.ChangeAt Go.RowKit
theorem item_room {w w1 : World} {n : ByteArray} {h : Bool} {v : ByteArray} {t : TypeId} (hb : Below (w.alloc (.cells #[.string n, .bool h, .string v] t)).heap.size (w.alloc (.cells #[.string n, .bool h, .string v] t)) w1) :
    w.heap.size < w1.heap.size ∧ w1.cell? ⟨w.heap.size, 0, none⟩ = some (.string n) ∧ w1.cell? ⟨w.heap.size, 1, none⟩ = some (.bool h) ∧ w1.cell? ⟨w.heap.size, 2, none⟩ = some (.string v) ∧ Below w.heap.size w w1 := by
  rw [World.size_alloc] at hb
  have hz := hb.size
  simp only [World.size_alloc] at hz
  exact ⟨hz, by rw [hb.cell (p := ⟨w.heap.size, 0, none⟩) (Nat.lt_succ_self _)]; simp, by rw [hb.cell (p := ⟨w.heap.size, 1, none⟩) (Nat.lt_succ_self _)]; simp, by rw [hb.cell (p := ⟨w.heap.size, 2, none⟩) (Nat.lt_succ_self _)]; simp, ((Below.refl _ _).alloc (Nat.le_refl _) _).trans (hb.mono (Nat.le_succ _))⟩
set_option maxHeartbeats 2000000 in
theorem implFault_any (r : Rec) (w : World) (hset : SetIs w) :
    Calls Tryd.prog 75 #[.agg #[.string r.name, .bool r.has, .string r.value]] w fun e w' => e = .returned (.int .i64 (faultR r)) ∧ Below w.heap.size w w' := by
  obtain ⟨n, h, v⟩ := r
  simp only
  have HW : Hid (Calls Tryd.prog 14 #[.string n] (w.alloc (.cells #[.string n, .bool h, .string v] 80)) fun e w' => e = .returned (.bool (wordS n)) ∧ Below (w.alloc (.cells #[.string n, .bool h, .string v] 80)).heap.size (w.alloc (.cells #[.string n, .bool h, .string v] 80)) w') := implIsWord_set n _ (hset.below ((Below.refl _ _).alloc (Nat.le_refl _) _))
  clear hset
  cases hw : wordS n
  · have HE : Hid (faultR ⟨n, h, v⟩ = 5) := by show _ = _; simp [faultR, hw]
    rw [hw] at HW
    clear hw
    go_enter Tryd.func75, Tryd.ntmps75
    go_wp2_with fail
    refine HW.out.mono ?_
    rintro e w1 ⟨rfl, hb1⟩
    obtain ⟨hz1, p0, p1, p2, kb⟩ := item_room hb1
    have KB : Hid (Below w.heap.size w w1) := kb
    clear hb1 kb
    go_wp2_with fail
    go_ret
    exact ⟨ret_int HE.out.symm, KB.out⟩
  rw [hw] at HW
  by_cases hv : h = false ∧ v.size ≠ 0
  · have HE : Hid (faultR ⟨n, h, v⟩ = 1) := by show _ = _; simp only [faultR, hw]; rw [if_neg (by simp), if_pos hv]
    obtain ⟨rfl, hv⟩ := hv
    have hm := str_empty hv
    clear hw hv
    go_enter Tryd.func75, Tryd.ntmps75
    go_wp2_with fail
    refine HW.out.mono ?_
    rintro e w1 ⟨rfl, hb1⟩
    obtain ⟨hz1, p0, p1, p2, kb⟩ := item_room hb1
    have KB : Hid (Below w.heap.size w w1) := kb
    clear hb1 kb
    go_wp2_with fail
    go_ret
    exact ⟨ret_int HE.out.symm, KB.out⟩
  · have HV : Hid (¬ (h = false ∧ v.size ≠ 0)) := hv
    have two : h = true ∨ (h = false ∧ v = ⟨#[]⟩) := by
      cases h
      · right
        exact ⟨rfl, empty_str (by simpa using hv)⟩
      · exact .inl rfl
    clear hv
    by_cases hbig : 1000 < v.size
    · have HE : Hid (faultR ⟨n, h, v⟩ = 2) := by show _ = _; simp only [faultR, hw]; rw [if_neg (by simp), if_neg HV.out, if_pos hbig]
      have g : (1000 : Int) < v.size := by omega
      rcases two with rfl | ⟨_, rfl⟩
      · clear hw HV
        go_enter Tryd.func75, Tryd.ntmps75
        go_wp2_with fail
        refine HW.out.mono ?_
        rintro e w1 ⟨rfl, hb1⟩
        obtain ⟨hz1, p0, p1, p2, kb⟩ := item_room hb1
        have KB : Hid (Below w.heap.size w w1) := kb
        clear hb1 kb
        go_wp2_with fail
        go_ret
        exact ⟨ret_int HE.out.symm, KB.out⟩
      · exact absurd hbig (by decide)
    · have g : ¬ (1000 : Int) < v.size := by omega
      have HP : Hid (∀ w, Calls Tryd.prog 118 #[.string v] w fun e w' => e = .returned (.bool (plainL v.data.toList)) ∧ w' = w) := fun w => allPlain_any v w (by omega)
      cases hp : plainL v.data.toList
      · have HE : Hid (faultR ⟨n, h, v⟩ = 5) := by show _ = _; simp only [faultR, hw]; rw [if_neg (by simp), if_neg HV.out, if_neg hbig, if_pos hp]
        rw [hp] at HP
        rcases two with rfl | ⟨_, rfl⟩
        · clear hw hp HV hbig
          go_enter Tryd.func75, Tryd.ntmps75
          go_wp2_with fail
          refine HW.out.mono ?_
          rintro e w1 ⟨rfl, hb1⟩
          obtain ⟨hz1, p0, p1, p2, kb⟩ := item_room hb1
          have KB : Hid (Below w.heap.size w w1) := kb
          clear hb1 kb
          go_wp2_with fail
          refine (HP.out _).mono ?_
          rintro e w2 ⟨rfl, rfl⟩
          go_wp2_with fail
          go_ret
          exact ⟨ret_int HE.out.symm, KB.out⟩
        · exact absurd hp (by decide)
      · have HE : Hid (faultR ⟨n, h, v⟩ = 0) := by show _ = _; simp only [faultR, hw]; rw [if_neg (by simp), if_neg HV.out, if_neg hbig, if_neg (by simp [hp])]
        rw [hp] at HP
        rcases two with rfl | ⟨rfl, rfl⟩
        all_goals
          clear hw hp HV hbig
          go_enter Tryd.func75, Tryd.ntmps75
          go_wp2_with fail
          refine HW.out.mono ?_
          rintro e w1 ⟨rfl, hb1⟩
          obtain ⟨hz1, p0, p1, p2, kb⟩ := item_room hb1
          have KB : Hid (Below w.heap.size w w1) := kb
          clear hb1 kb
          go_wp2_with fail
          refine (HP.out _).mono ?_
          rintro e w2 ⟨rfl, rfl⟩
          go_wp2_with fail
          go_ret
          exact ⟨ret_int HE.out.symm, KB.out⟩
end Go.Proofs.YtibomkcbopkpkaaDoor
