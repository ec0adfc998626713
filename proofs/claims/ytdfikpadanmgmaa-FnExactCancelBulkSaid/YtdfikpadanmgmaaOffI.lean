/-
  Who is called off, by the program.
-/
import Derived.Test.YtdfikpadanmgmaaExpI
namespace Go.Proofs.Ytdfikpadanmgmaa
open Go.ChangeShapes Go.WideShapes Go.ChangeAt Go.RowKit Go.Sort
def OffR (w : World) (base : Nat) (y : Int) (L : List Wt) (ia : Option Addr) (m ic : Nat) (e : Ending) : Prop := ∃ va vc, e = .returned (.agg #[.int .i64 0, .int .i64 y, .slice va L.length vc, .slice ia m ic]) ∧ WtNew w base (.slice va L.length vc) L ∧ L.length ≤ vc
set_option maxRecDepth 100000 in
set_option maxHeartbeats 8000000 in
theorem callOff_any (w : World) (y : Int) (a ia : Option Addr) (cap ic : Nat) (l : List Wt) (ids : List Int) (hl : l.length ≤ 8) (hm : ids.length ≤ 8) (hi : WtIn w a l) (hii : NsIn w ia ids) :
    Calls Try.prog 85 #[.agg #[.int .i64 y, .slice a l.length cap], .slice ia ids.length ic] w fun e w' => OffR w' w.heap.size y (withoutW l ids) ia ids.length ic e ∧ Below w.heap.size w w' := by
  obtain ⟨W, hW⟩ : ∃ W, W = (w.alloc (.cells #[.int .i64 y, .slice a l.length cap] 35)).alloc (.cells #[.int .i64 0, .int .i64 0, .slice none 0 0, .slice none 0 0] 54) := ⟨_, rfl⟩
  have HW : Hid (W = (w.alloc (.cells #[.int .i64 y, .slice a l.length cap] 35)).alloc (.cells #[.int .i64 0, .int .i64 0, .slice none 0 0, .slice none 0 0] 54)) := hW
  have K0 : Hid (Below w.heap.size w W ∧ D2 W w.heap.size (.int .i64 y) (.slice a l.length cap) ∧ D4 W (w.heap.size + 1) (.int .i64 0) (.int .i64 0) (.slice none 0 0) (.slice none 0 0) ∧ W.heap.size = w.heap.size + 2) := by
    have h2 := D4.new (w.alloc (.cells #[.int .i64 y, .slice a l.length cap] 35)) (.int .i64 0) (.int .i64 0) (.slice none 0 0) (.slice none 0 0) 54
    rw [show (w.alloc (.cells #[.int .i64 y, .slice a l.length cap] 35)).heap.size = w.heap.size + 1 by simp] at h2
    rw [hW]
    exact ⟨((Below.refl _ _).alloc (Nat.le_refl _) _).alloc (by simp) _, (D2.new w _ _ _).keep ((Below.refl _ _).alloc (Nat.le_refl _) _), h2, by simp⟩
  have HC : Hid (∀ X, Below w.heap.size w X → Calls Try.prog 121 #[.slice a l.length cap, .slice ia ids.length ic] X fun e w' => WtRes w' X.heap.size (withoutW l ids) e ∧ Below X.heap.size X w') := fun X hX => without_any X a ia cap ic l ids hl hm (hi.keep hX) (hii.keep hX)
  clear hW hi hii
  generalize withoutW l ids = L at *
  obtain ⟨m2, hm2⟩ : ∃ m, L.length = m := ⟨_, rfl⟩
  have HM2 := hid11 hm2
  clear hm2
  generalize ids.length = m at *
  generalize l.length = n at *
  have HKS : Hid (∀ X, Below (w.heap.size + 1) W X → X.cell? ⟨w.heap.size, 0, none⟩ = some (.int .i64 y) ∧ X.cell? ⟨w.heap.size, 1, none⟩ = some (.slice a n cap)) := fun X hb => ⟨(K0.out.2.1.low hb (by omega)).c0, (K0.out.2.1.low hb (by omega)).c1⟩
  have HL3 : Hid (w.heap.size + 1 ≤ W.heap.size) := by show _ ≤ _; rw [K0.out.2.2.2]; omega
  have B0 : Hid (Below W.heap.size W W.drew) := (Below.refl _ _).drew
  have B0L : Hid (Below (w.heap.size + 1) W W.drew) := B0.out.mono HL3.out
  go_enter Try.func85, Try.ntmps85
  go_wp2_with fail
  rw [← HW.out]
  clear HW
  go_region_held3 (fun X => X.cell? ⟨w.heap.size, 0, none⟩ = some (.int .i64 y) ∧ X.cell? ⟨w.heap.size, 1, none⟩ = some (.slice a n cap))
    (first | exact HKS.out _ BAS.out | exact HKS.out _ BAL.out | exact HKS.out _ B0L.out)
    (first
    | (go_at_call 121; refine (HC.out _ (K0.out.1.trans (B0.out.mono K0.out.1.size))).mono ?_; rintro r0 u1 ⟨⟨va, vc, rfl, mv, mc⟩, hb⟩; rw [HM2.out] at mv mc ⊢; have BA : Hid (Below W.heap.size W u1) := B0.out.trans (hb.mono B0.out.size); have MV : Hid (WtNew u1 W.heap.size (.slice va m2 vc) L ∧ m2 ≤ vc) := ⟨mv.lower B0.out.size, mc⟩; have BAL : Hid (Below (w.heap.size + 1) W u1) := BA.out.mono HL3.out; have BAS : Hid (Below (w.heap.size + 1) W ((((u1.setCell ⟨w.heap.size + 1, 0, none⟩ (.int .i64 0)).setCell ⟨w.heap.size + 1, 1, none⟩ (.int .i64 y)).setCell ⟨w.heap.size + 1, 2, none⟩ (.slice va m2 vc)).setCell ⟨w.heap.size + 1, 3, none⟩ (.slice ia m ic))) := ((((BAL.out.setCell (Nat.le_refl _) _).setCell (Nat.le_refl _) _).setCell (Nat.le_refl _) _).setCell (Nat.le_refl _) _); obtain ⟨r0, r1, r2, r3, rf, _⟩ := K0.out.2.2.1.keep BA.out; clear hb mv mc))
  all_goals
    have HNW : Hid (∀ y0 y1 y2 y3, WtNew ((((u1.setCell ⟨w.heap.size + 1, 0, none⟩ y0).setCell ⟨w.heap.size + 1, 1, none⟩ y1).setCell ⟨w.heap.size + 1, 2, none⟩ y2).setCell ⟨w.heap.size + 1, 3, none⟩ y3) w.heap.size (.slice va m2 vc) L) := fun y0 y1 y2 y3 => by
      have hh := K0.out.2.2.2
      refine WtNew.lower ?_ K0.out.1.size
      refine WtNew.gw2 (g := w.heap.size + 1) ?_ (gwSet _ _ _ _) (by omega)
      refine WtNew.gw2 (g := w.heap.size + 1) ?_ (gwSet _ _ _ _) (by omega)
      refine WtNew.gw2 (g := w.heap.size + 1) ?_ (gwSet _ _ _ _) (by omega)
      exact WtNew.gw2 (g := w.heap.size + 1) MV.out.1 (gwSet _ _ _ _) (by omega)
    have HCP := hid11 MV.out.2
    have HBW := hid11 (K0.out.1.trans (BA.out.mono K0.out.1.size))
    clear HKS B0 B0L BA BAL BAS MV K0 HC HL3
    go_wp2_with fail
    exact bodyPost_ret (v := .agg #[.int .i64 0, .int .i64 y, .slice va m2 vc, .slice ia m ic]) (by simp [results, Try.results85, go_sem, r0, r1, r2, r3]) rfl ⟨⟨va, vc, by rw [HM2.out], by rw [HM2.out]; exact HNW.out _ _ _ _, by rw [HM2.out]; exact HCP.out⟩, ((((HBW.out.setCell (by simp <;> omega) _).setCell (by simp <;> omega) _).setCell (by simp <;> omega) _).setCell (by simp <;> omega) _)⟩
end Go.Proofs.Ytdfikpadanmgmaa
