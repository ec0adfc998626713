/-
  The draws of chapter 7's arguments.
-/
import Derived.Test.YtnbbbmhfmjkhbaaDraw7N
import Derived.Deep.RegionHeld3
import Derived.Deep.CutRange
namespace Go.Proofs.Ytnbbbmhfmjkhbaa
open Go.ChangeShapes Go.WideShapes Go.ChangeAt Go.RowKit Go.Sort
def SomeMN (r : Ending) : Prop := ∃ (t g l s e : Int) (b1 b2 : Bool) (n : Int), r = .returned (.tuple #[.agg #[.int .i64 t, .int .i64 g, .int .i64 l, .int .i64 s, .int .i64 e, .bool b1, .bool b2], .int .i64 n])
theorem meta_cells {X : World} {Q : Nat} {t g l s e : Int} {b1 b2 : Bool} (k : MetaAt X Q t g l s e b1 b2) : X.cell? ⟨Q, 0, none⟩ = some (.int .i64 t) ∧ X.cell? ⟨Q, 1, none⟩ = some (.int .i64 g) ∧ X.cell? ⟨Q, 2, none⟩ = some (.int .i64 l) ∧ X.cell? ⟨Q, 3, none⟩ = some (.int .i64 s) ∧ X.cell? ⟨Q, 4, none⟩ = some (.int .i64 e) ∧ X.cell? ⟨Q, 5, none⟩ = some (.bool b1) ∧ X.cell? ⟨Q, 6, none⟩ = some (.bool b2) := ⟨k.c0, k.c1, k.c2, k.c3, k.c4, k.c5, k.c6⟩
set_option maxHeartbeats 8000000 in
theorem drawAge_any (w : World) (a : Option Addr) (len cap : Nat) (hc : CodeRow w w.heap.size a len) (hl2 : len ≤ 1048576) :
    Calls Try.prog 33 #[.slice a len cap] w fun r w' => SomeMN r ∧ Below w.heap.size w w' := by
  obtain ⟨v, hv⟩ : ∃ X, Hid (X = w.alloc (.cells #[.int .i64 0, .int .i64 0, .int .i64 0, .int .i64 0, .int .i64 0, .bool false, .bool false] 25)) := ⟨_, rfl⟩
  have bv : Below w.heap.size w v := by rw [hv.out]; exact (Below.refl _ _).alloc (Nat.le_refl _) _
  have HB : Hid (Below w.heap.size w v) := bv
  have HM : Hid (MetaAt v w.heap.size 0 0 0 0 0 false false) := by rw [hv.out]; exact MetaAt.new w _ _ _ _ _ _ _ _
  have HC : Hid (CodeRow v v.heap.size a len) := (hc.below bv).mono bv.size
  clear hc bv
  go_enter Try.func33, Try.ntmps33
  go_upto_region 1 with fail
  rw [← hv.out]
  clear hv
  go_wp2_with fail
  refine (l1Source_any v a len cap HC.out).mono ?_
  rintro r w0 ⟨rfl, hs0, hb0⟩
  have hBl : w.heap.size < v.heap.size := HM.out.lt
  have HS0 : Hid (Src w0 v.heap.size a len cap 0) := hs0
  have HB0 : Hid (Below w.heap.size w w0) := HB.out.trans (hb0.mono HB.out.size)
  have HM0 : Hid (MetaAt w0 w.heap.size 0 0 0 0 0 false false) := HM.out.keep hb0
  clear hs0 hb0 HC HB HM
  generalize v.heap.size = B at *
  clear v
  go_wp2_with fail
  refine (l7Bent_any _ B a len cap 0 HS0.out (by omega) hl2).mono ?_
  rintro r w1 ⟨⟨t, g, l, s, e, b1, b2, hn, rfl⟩, ⟨k1, hk1, hs1⟩, hb1, ha1⟩
  have HN : Hid (nearB t ∧ nearB g ∧ nearB l ∧ nearB s ∧ nearB e) := hn
  have hl1 : B < w1.heap.size := hs1.lt
  obtain ⟨v1, hv1⟩ : ∃ X, Hid (X = w1.alloc (.cells #[.int .i64 t, .int .i64 g, .int .i64 l, .int .i64 s, .int .i64 e, .bool b1, .bool b2] 25)) := ⟨_, rfl⟩
  have HV1 : Hid (Src v1 B a len cap k1 ∧ Below w.heap.size w v1 ∧ MetaAt v1 w.heap.size 0 0 0 0 0 false false ∧ MetaAt v1 w1.heap.size t g l s e b1 b2) := by
    rw [hv1.out]
    have q := HB0.out.trans (hb1.mono (Nat.le_of_lt hBl))
    exact ⟨hs1.alloc _, q.trans ((Below.refl _ _).alloc (Nat.le_trans (Nat.le_of_lt hBl) (Nat.le_of_lt hl1)) _), (HM0.out.apart ha1 (by omega)).keep ((Below.refl _ _).alloc (Nat.le_refl _) _), MetaAt.new w1 _ _ _ _ _ _ _ _⟩
  clear hn hs1 hb1 ha1 HS0 HB0 HM0
  go_upto_region 3 with fail
  rw [← hv1.out]
  clear hv1
  generalize w1.heap.size = Q at *
  clear w1
  have D0 : Hid (Src v1.drew B a len cap k1 ∧ Below B v1 v1.drew ∧ Apart B v1 v1.drew) := ⟨HV1.out.1.drew, (Below.refl _ _).drew, (Apart.refl _ _).drew⟩
  have HNW : Hid (∀ X, Src X B a len cap k1 → MetaAt X Q t g l s e b1 b2 → Calls Try.prog 54 #[.pointer (some ⟨B, 0, none⟩), .pointer (some ⟨Q, 0, none⟩)] X fun r w' => (∃ n : Int, r = .returned (.int .i64 n)) ∧ (∃ k', k' ≤ k1 + 4 ∧ Src w' B a len cap k') ∧ Below B X w' ∧ Apart B X w') := fun X h hm => l7Now_any X B Q a len cap k1 t g l s e b1 b2 h (by omega) hl2 hm (by omega) HN.out
  have HKS : Hid (∀ X, Apart B v1 X → (fun X : World => X.cell? ⟨Q, 0, none⟩ = some (.int .i64 t) ∧ X.cell? ⟨Q, 1, none⟩ = some (.int .i64 g) ∧ X.cell? ⟨Q, 2, none⟩ = some (.int .i64 l) ∧ X.cell? ⟨Q, 3, none⟩ = some (.int .i64 s) ∧ X.cell? ⟨Q, 4, none⟩ = some (.int .i64 e) ∧ X.cell? ⟨Q, 5, none⟩ = some (.bool b1) ∧ X.cell? ⟨Q, 6, none⟩ = some (.bool b2)) X) := fun X ha => meta_cells (HV1.out.2.2.2.apart ha (by omega))
  have HST : Hid (∀ X, Apart B v1 X → (fun X : World => X.cell? ⟨Q, 0, none⟩ = some (.int .i64 t) ∧ X.cell? ⟨Q, 1, none⟩ = some (.int .i64 g) ∧ X.cell? ⟨Q, 2, none⟩ = some (.int .i64 l) ∧ X.cell? ⟨Q, 3, none⟩ = some (.int .i64 s) ∧ X.cell? ⟨Q, 4, none⟩ = some (.int .i64 e) ∧ X.cell? ⟨Q, 5, none⟩ = some (.bool b1) ∧ X.cell? ⟨Q, 6, none⟩ = some (.bool b2)) (((((((X.setCell ⟨w.heap.size, 0, none⟩ (.int .i64 t)).setCell ⟨w.heap.size, 1, none⟩ (.int .i64 g)).setCell ⟨w.heap.size, 2, none⟩ (.int .i64 l)).setCell ⟨w.heap.size, 3, none⟩ (.int .i64 s)).setCell ⟨w.heap.size, 4, none⟩ (.int .i64 e)).setCell ⟨w.heap.size, 5, none⟩ (.bool b1)).setCell ⟨w.heap.size, 6, none⟩ (.bool b2))) := fun X ha => meta_cells (((((((((HV1.out.2.2.2.apart ha (by omega)).off (by omega)).off (by omega)).off (by omega)).off (by omega)).off (by omega)).off (by omega)).off (by omega)))
  go_region_held3 (fun X => X.cell? ⟨Q, 0, none⟩ = some (.int .i64 t) ∧ X.cell? ⟨Q, 1, none⟩ = some (.int .i64 g) ∧ X.cell? ⟨Q, 2, none⟩ = some (.int .i64 l) ∧ X.cell? ⟨Q, 3, none⟩ = some (.int .i64 s) ∧ X.cell? ⟨Q, 4, none⟩ = some (.int .i64 e) ∧ X.cell? ⟨Q, 5, none⟩ = some (.bool b1) ∧ X.cell? ⟨Q, 6, none⟩ = some (.bool b2))
    (first | ((with_reducible refine HKS.out _ ?_); (with_reducible exact D1.out.2)) | ((with_reducible refine HKS.out _ ?_); (with_reducible exact D0.out.2.2)) | ((with_reducible refine HST.out _ ?_); (with_reducible exact D1.out.2)))
    (first
    | (go_at_call 54; (with_reducible refine (HNW.out _ ?_ ?_).mono ?_); (with_reducible exact D0.out.1); exact HV1.out.2.2.2.apart D0.out.2.2 (by omega); rintro r wa ⟨⟨n, rfl⟩, ⟨k2, hk2, hsa⟩, hba, haa⟩; have D1 : Hid (Below B v1 wa ∧ Apart B v1 wa) := ⟨D0.out.2.1.trans hba, D0.out.2.2.trans haa⟩; have MZ := HV1.out.2.2.1.apart D1.out.2 (by omega : w.heap.size ≠ B); have ME : Hid _ := MZ.all t g l s e b1 b2; have z0 := MZ.c0; have z1 := MZ.c1; have z2 := MZ.c2; have z3 := MZ.c3; have z4 := MZ.c4; have z5 := MZ.c5; have z6 := MZ.c6; have y0 := MZ.fr 0; have y1 := MZ.fr 1; have y2 := MZ.fr 2; have y3 := MZ.fr 3; have y4 := MZ.fr 4; have y5 := MZ.fr 5; have y6 := MZ.fr 6; clear MZ hsa hba haa))
  all_goals
    go_wp2_with fail
    have r0 := ME.out.c0
    have r1 := ME.out.c1
    have r2 := ME.out.c2
    have r3 := ME.out.c3
    have r4 := ME.out.c4
    have r5 := ME.out.c5
    have r6 := ME.out.c6
    refine bodyPost_ret (v := .tuple #[.agg #[.int .i64 t, .int .i64 g, .int .i64 l, .int .i64 s, .int .i64 e, .bool b1, .bool b2], .int .i64 n]) ?_ rfl ⟨⟨t, g, l, s, e, b1, b2, n, rfl⟩, ?_⟩
    · simp [results, Try.results33, go_sem, r0, r1, r2, r3, r4, r5, r6]
    · have hh := HV1.out.2.1.trans (D1.out.1.mono (Nat.le_of_lt hBl))
      exact ((((((hh.setCell (Nat.le_refl _) _).setCell (Nat.le_refl _) _).setCell (Nat.le_refl _) _).setCell (Nat.le_refl _) _).setCell (Nat.le_refl _) _).setCell (Nat.le_refl _) _).setCell (Nat.le_refl _) _
set_option maxHeartbeats 4000000 in
theorem drawPhase_any (w : World) (a : Option Addr) (len cap : Nat) (hc : CodeRow w w.heap.size a len) (hl2 : len ≤ 1048576) :
    Calls Try.prog 12 #[.slice a len cap] w fun r w' => SomeMN r ∧ Below w.heap.size w w' := by
  obtain ⟨v, hv⟩ : ∃ X, Hid (X = w.alloc (.cells #[.int .i64 0, .int .i64 0, .int .i64 0, .int .i64 0, .int .i64 0, .bool false, .bool false] 25)) := ⟨_, rfl⟩
  have bv : Below w.heap.size w v := by rw [hv.out]; exact (Below.refl _ _).alloc (Nat.le_refl _) _
  have HB : Hid (Below w.heap.size w v) := bv
  have HM : Hid (MetaAt v w.heap.size 0 0 0 0 0 false false) := by rw [hv.out]; exact MetaAt.new w _ _ _ _ _ _ _ _
  have HC : Hid (CodeRow v v.heap.size a len) := (hc.below bv).mono bv.size
  clear hc bv
  go_enter Try.func12, Try.ntmps12
  go_upto_region 1 with fail
  rw [← hv.out]
  clear hv
  go_wp2_with fail
  refine (drawAge_any v a len cap HC.out hl2).mono ?_
  rintro r w1 ⟨⟨t, g, l, s, e, b1, b2, n, rfl⟩, hb1⟩
  have HB1 : Hid (Below w.heap.size w w1) := HB.out.trans (hb1.mono HB.out.size)
  have MZ := HM.out.keep hb1
  have ME : Hid _ := MZ.all t g l s e b1 b2
  obtain ⟨z0, z1, z2, z3, z4, z5, z6, zf, _⟩ := MZ
  have y0 := zf 0
  have y1 := zf 1
  have y2 := zf 2
  have y3 := zf 3
  have y4 := zf 4
  have y5 := zf 5
  have y6 := zf 6
  clear zf hb1 HM HB HC
  go_wp2_with fail
  have r0 := ME.out.c0
  have r1 := ME.out.c1
  have r2 := ME.out.c2
  have r3 := ME.out.c3
  have r4 := ME.out.c4
  have r5 := ME.out.c5
  have r6 := ME.out.c6
  refine bodyPost_ret (v := .tuple #[.agg #[.int .i64 t, .int .i64 g, .int .i64 l, .int .i64 s, .int .i64 e, .bool b1, .bool b2], .int .i64 n]) ?_ rfl ⟨⟨t, g, l, s, e, b1, b2, n, rfl⟩, ?_⟩
  · simp [results, Try.results12, go_sem, r0, r1, r2, r3, r4, r5, r6]
  · exact ((((((HB1.out.setCell (Nat.le_refl _) _).setCell (Nat.le_refl _) _).setCell (Nat.le_refl _) _).setCell (Nat.le_refl _) _).setCell (Nat.le_refl _) _).setCell (Nat.le_refl _) _).setCell (Nat.le_refl _) _
end Go.Proofs.Ytnbbbmhfmjkhbaa
