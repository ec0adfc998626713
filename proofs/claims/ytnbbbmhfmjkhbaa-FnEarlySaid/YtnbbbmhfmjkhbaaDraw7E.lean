/-
  The draws of EarlyDue's arguments.
-/
import Derived.Test.YtnbbbmhfmjkhbaaDraw7A
namespace Go.Proofs.Ytnbbbmhfmjkhbaa
open Go.ChangeShapes Go.WideShapes Go.ChangeAt Go.RowKit Go.Sort
set_option maxHeartbeats 400000 in
theorem l1Later_any (w : World) (a : Option Addr) (len cap : Nat) (j : Nat) (hj : j ≤ 10) (hc : CodeRow w w.heap.size a len) :
    Calls Try.prog 41 #[.slice a len cap, .int .i64 (j : Int)] w fun e w' => e = .returned (.pointer (some ⟨w.heap.size, 0, none⟩)) ∧ Src w' w.heap.size a len cap (5 + 7 * j) ∧ Below w.heap.size w w' := by
  have HC : Hid (CodeRow w w.heap.size a len) := hc
  clear hc
  have e1 : (((5 + 7 * j : Nat)) : Int) = 5 + 7 * (j : Int) := by omega
  have g0 : (0 : Int) ≤ (j : Int) := by omega
  have g1 : (j : Int) ≤ 10 := by omega
  go_enter Try.func41, Try.ntmps41
  go_wp2
  go_ret
  have hb : Below w.heap.size w (w.alloc (.cells #[.slice a len cap, .int .i64 (5 + 7 * (j : Int))] 84)) := (Below.refl _ _).alloc (Nat.le_refl _) _
  refine ⟨rfl, ⟨by simp, by rw [e1]; simp, by simp, HC.out.below hb⟩, hb⟩
def SomeMN3 (r : Ending) : Prop := ∃ (t g l s e : Int) (b1 b2 : Bool) (n wi dr : Int), r = .returned (.tuple #[.agg #[.int .i64 t, .int .i64 g, .int .i64 l, .int .i64 s, .int .i64 e, .bool b1, .bool b2], .int .i64 n, .int .i64 wi, .int .i64 dr])
set_option maxHeartbeats 8000000 in
theorem drawEarly_any (w : World) (a : Option Addr) (len cap : Nat) (hc : CodeRow w w.heap.size a len) (hl2 : len ≤ 1048576) :
    Calls Try.prog 22 #[.slice a len cap] w fun r w' => SomeMN3 r ∧ Below w.heap.size w w' := by
  obtain ⟨v, hv⟩ : ∃ X, Hid (X = w.alloc (.cells #[.int .i64 0, .int .i64 0, .int .i64 0, .int .i64 0, .int .i64 0, .bool false, .bool false] 25)) := ⟨_, rfl⟩
  have bv : Below w.heap.size w v := by rw [hv.out]; exact (Below.refl _ _).alloc (Nat.le_refl _) _
  have HB : Hid (Below w.heap.size w v) := bv
  have HM : Hid (MetaAt v w.heap.size 0 0 0 0 0 false false) := by rw [hv.out]; exact MetaAt.new w _ _ _ _ _ _ _ _
  have HC : Hid (CodeRow v v.heap.size a len) := (hc.below bv).mono bv.size
  clear hc bv
  go_enter Try.func22, Try.ntmps22
  go_upto_region 1 with fail
  rw [← hv.out]
  clear hv
  go_wp2_with fail
  refine (drawAge_any v a len cap HC.out hl2).mono ?_
  rintro r w1 ⟨⟨t, g, l, s, e, b1, b2, n, rfl⟩, hb1⟩
  obtain ⟨v1, hv1⟩ : ∃ X, Hid (X = w1.alloc (.cells #[.int .i64 t, .int .i64 g, .int .i64 l, .int .i64 s, .int .i64 e, .bool b1, .bool b2] 25)) := ⟨_, rfl⟩
  have al : Below w1.heap.size w1 v1 := by rw [hv1.out]; exact (Below.refl _ _).alloc (Nat.le_refl _) _
  have F1 : Hid (Below w.heap.size w v1 ∧ MetaAt v1 w.heap.size 0 0 0 0 0 false false ∧ MetaAt v1 w1.heap.size t g l s e b1 b2 ∧ CodeRow v1 v1.heap.size a len ∧ w.heap.size < w1.heap.size) := by
    have q := HB.out.trans (hb1.mono HB.out.size)
    have q2 := hb1.trans (al.mono hb1.size)
    refine ⟨q.trans (al.mono q.size), (HM.out.keep hb1).keep al, ?_, (HC.out.below q2).mono q2.size, (HM.out.keep hb1).lt⟩
    rw [hv1.out]; exact MetaAt.new w1 _ _ _ _ _ _ _ _
  clear hb1 al HB HM HC
  go_upto_region 2 with fail
  rw [← hv1.out]
  clear hv1
  generalize w1.heap.size = Q at *
  clear w1 v
  go_wp2_with fail
  refine (l1Later_any v1 a len cap 2 (by omega) F1.out.2.2.2.1).mono ?_
  rintro r w2 ⟨rfl, hs2, hb2⟩
  have hQB : Q < v1.heap.size := F1.out.2.2.1.lt
  have F2 : Hid (Below w.heap.size w w2 ∧ MetaAt w2 w.heap.size 0 0 0 0 0 false false ∧ MetaAt w2 Q t g l s e b1 b2 ∧ w.heap.size < Q ∧ Src w2 v1.heap.size a len cap 19) := by
    obtain ⟨f1, f2, f3, f4, f5⟩ := F1.out
    exact ⟨f1.trans (hb2.mono f1.size), f2.keep hb2, f3.keep hb2, f5, hs2⟩
  clear hs2 hb2 F1
  generalize v1.heap.size = B at *
  clear v1
  have hne1 : Q ≠ B := by omega
  have hne2 : w.heap.size ≠ B := by have := F2.out.2.2.2.1; omega
  have hne3 : w.heap.size ≠ Q := by have := F2.out.2.2.2.1; omega
  have hlB : w.heap.size ≤ B := by have := F2.out.2.2.2.1; omega
  go_upto_region 3 with fail
  have D0 : Hid (Src w2.drew B a len cap 19 ∧ Below B w2 w2.drew ∧ Apart B w2 w2.drew) := ⟨F2.out.2.2.2.2.drew, (Below.refl _ _).drew, (Apart.refl _ _).drew⟩
  have HPA : Hid (∀ X, Src X.drew B a len cap 19 → Calls Try.prog 42 #[.pointer (some ⟨B, 0, none⟩), .slice (some ⟨X.heap.size, 0, none⟩) 7 7] (X.alloc (.cells #[.int .i64 0, .int .i64 1000, .int .i64 1000, .int .i64 5000, .int .i64 1000000, .int .i64 1000001, .int .i64 (-1)] 2)).drew fun e w' => (∃ v : Int, e = .returned (.int .i64 v)) ∧ Src w' B a len cap 20 ∧ Below B X w' ∧ Apart B X w') := fun X h => by
    have h' : Src X B a len cap 19 := ⟨h.c0, h.c1, h.f1, h.row⟩
    refine (l1Pick_any (X.alloc (.cells #[.int .i64 0, .int .i64 1000, .int .i64 1000, .int .i64 5000, .int .i64 1000000, .int .i64 1000001, .int .i64 (-1)] 2)).drew B a len cap 19 (h'.alloc _).drew X.heap.size [0, 1000, 1000, 5000, 1000000, 1000001, -1] (by have := h'.lt; omega) 7 rfl ?_ (by omega) (by omega) (by omega) hl2).mono fun _ w' ⟨⟨v, _, h1⟩, h2⟩ => ⟨⟨v, h1⟩, ((h'.alloc _).drew.stepped h2).1, (((Below.refl B X).alloc (Nat.le_of_lt h'.lt) _).drew).trans ((h'.alloc _).drew.stepped h2).2, ((Apart.alloc B X _).drew).trans (.stepped h2)⟩
    intro i x hx
    rw [World.cell?_drew, World.cell?_alloc_mark]
    rcases i with _ | _ | _ | _ | _ | _ | _ | i <;> simp at hx <;> subst hx <;> rfl
  have HNX : Hid (∀ X, Src X B a len cap 20 → Calls Try.prog 43 #[.pointer (some ⟨B, 0, none⟩), .int .i64 1000] X fun e w' => (∃ v : Int, e = .returned (.int .i64 v)) ∧ Src w' B a len cap 21 ∧ Below B X w' ∧ Apart B X w') := fun X h => (l1Next_a X B a len cap 20 1000 h (by omega) (by omega) (by omega) hl2).mono fun _ _ ⟨⟨v, _, _, h1⟩, h2⟩ => ⟨⟨v, h1⟩, h2⟩
  have HPB : Hid (∀ X u, Src X B a len cap 21 → Calls Try.prog 42 #[.pointer (some ⟨B, 0, none⟩), .slice (some ⟨X.heap.size, 0, none⟩) 6 6] (X.alloc (.cells #[.int .i64 0, .int .i64 999, .int .i64 500, .int .i64 u, .int .i64 1000, .int .i64 (-1)] 2)) fun e w' => (∃ v : Int, e = .returned (.int .i64 v)) ∧ Src w' B a len cap 22 ∧ Below B X w' ∧ Apart B X w') := fun X u h => (l1Pick_a X B a len cap 21 h [0, 999, 500, u, 1000, -1] 6 rfl (by omega) (by omega) (by omega) hl2).mono fun _ _ ⟨⟨v, _, h1⟩, h2⟩ => ⟨⟨v, h1⟩, h2⟩
  have HKS : Hid (∀ X, Apart B w2 X → (fun X : World => X.cell? ⟨Q, 0, none⟩ = some (.int .i64 t) ∧ X.cell? ⟨Q, 1, none⟩ = some (.int .i64 g) ∧ X.cell? ⟨Q, 2, none⟩ = some (.int .i64 l) ∧ X.cell? ⟨Q, 3, none⟩ = some (.int .i64 s) ∧ X.cell? ⟨Q, 4, none⟩ = some (.int .i64 e) ∧ X.cell? ⟨Q, 5, none⟩ = some (.bool b1) ∧ X.cell? ⟨Q, 6, none⟩ = some (.bool b2)) X) := fun X ha => meta_cells (F2.out.2.2.1.apart ha hne1)
  have HST : Hid (∀ X, Apart B w2 X → (fun X : World => X.cell? ⟨Q, 0, none⟩ = some (.int .i64 t) ∧ X.cell? ⟨Q, 1, none⟩ = some (.int .i64 g) ∧ X.cell? ⟨Q, 2, none⟩ = some (.int .i64 l) ∧ X.cell? ⟨Q, 3, none⟩ = some (.int .i64 s) ∧ X.cell? ⟨Q, 4, none⟩ = some (.int .i64 e) ∧ X.cell? ⟨Q, 5, none⟩ = some (.bool b1) ∧ X.cell? ⟨Q, 6, none⟩ = some (.bool b2)) (((((((X.setCell ⟨w.heap.size, 0, none⟩ (.int .i64 t)).setCell ⟨w.heap.size, 1, none⟩ (.int .i64 g)).setCell ⟨w.heap.size, 2, none⟩ (.int .i64 l)).setCell ⟨w.heap.size, 3, none⟩ (.int .i64 s)).setCell ⟨w.heap.size, 4, none⟩ (.int .i64 e)).setCell ⟨w.heap.size, 5, none⟩ (.bool b1)).setCell ⟨w.heap.size, 6, none⟩ (.bool b2))) := fun X ha => meta_cells (((((((((F2.out.2.2.1.apart ha hne1).off hne3).off hne3).off hne3).off hne3).off hne3).off hne3).off hne3))
  have D0A : Hid (Apart B w2 (w2.alloc (.cells #[.int .i64 0, .int .i64 1000, .int .i64 1000, .int .i64 5000, .int .i64 1000000, .int .i64 1000001, .int .i64 (-1)] 2)).drew) := (Apart.alloc B w2 _).drew
  go_region_held3 (fun X => X.cell? ⟨Q, 0, none⟩ = some (.int .i64 t) ∧ X.cell? ⟨Q, 1, none⟩ = some (.int .i64 g) ∧ X.cell? ⟨Q, 2, none⟩ = some (.int .i64 l) ∧ X.cell? ⟨Q, 3, none⟩ = some (.int .i64 s) ∧ X.cell? ⟨Q, 4, none⟩ = some (.int .i64 e) ∧ X.cell? ⟨Q, 5, none⟩ = some (.bool b1) ∧ X.cell? ⟨Q, 6, none⟩ = some (.bool b2))
    (first | ((with_reducible refine HKS.out _ ?_); (with_reducible exact D3.out.2.2)) | ((with_reducible refine HKS.out _ ?_); (with_reducible exact D2.out.2.2)) | ((with_reducible refine HKS.out _ ?_); (with_reducible exact D1.out.2.2)) | ((with_reducible refine HKS.out _ ?_); (with_reducible exact D0.out.2.2)) | ((with_reducible refine HKS.out _ ?_); (with_reducible exact D0A.out)) | ((with_reducible refine HST.out _ ?_); (with_reducible exact D3.out.2.2)) | ((with_reducible refine HKS.out _ ?_); (with_reducible exact D2.out.2.2.trans (Apart.alloc _ _ _))))
    (first
    | (go_at_call 42; (with_reducible refine (HPA.out w2 ?_).mono ?_); (with_reducible exact D0.out.1); rintro r wa ⟨⟨wi, rfl⟩, hsa, hba, haa⟩; have D1 : Hid (Src wa B a len cap 20 ∧ Below B w2 wa ∧ Apart B w2 wa) := ⟨hsa, hba, haa⟩; clear hsa hba haa)
    | (go_at_call 43; (with_reducible refine (HNX.out _ ?_).mono ?_); (with_reducible exact D1.out.1); rintro r wb ⟨⟨u, rfl⟩, hsa, hba, haa⟩; have D2 : Hid (Src wb B a len cap 21 ∧ Below B w2 wb ∧ Apart B w2 wb) := ⟨hsa, D1.out.2.1.trans hba, D1.out.2.2.trans haa⟩; clear hsa hba haa)
    | (go_at_call 42; (with_reducible refine (HPB.out wb _ ?_).mono ?_); (with_reducible exact D2.out.1); rintro r wd ⟨⟨dr, rfl⟩, hsa, hba, haa⟩; have D3 : Hid (Src wd B a len cap 22 ∧ Below B w2 wd ∧ Apart B w2 wd) := ⟨hsa, D2.out.2.1.trans hba, D2.out.2.2.trans haa⟩; clear hsa hba haa; have MZ := F2.out.2.1.apart D3.out.2.2 hne2; have ME : Hid _ := MZ.all t g l s e b1 b2; have z0 := MZ.c0; have z1 := MZ.c1; have z2 := MZ.c2; have z3 := MZ.c3; have z4 := MZ.c4; have z5 := MZ.c5; have z6 := MZ.c6; have y0 := MZ.fr 0; have y1 := MZ.fr 1; have y2 := MZ.fr 2; have y3 := MZ.fr 3; have y4 := MZ.fr 4; have y5 := MZ.fr 5; have y6 := MZ.fr 6; clear MZ))
  all_goals
    go_wp2_with fail
    have r0 := ME.out.c0
    have r1 := ME.out.c1
    have r2 := ME.out.c2
    have r3 := ME.out.c3
    have r4 := ME.out.c4
    have r5 := ME.out.c5
    have r6 := ME.out.c6
    refine bodyPost_ret (v := .tuple #[.agg #[.int .i64 t, .int .i64 g, .int .i64 l, .int .i64 s, .int .i64 e, .bool b1, .bool b2], .int .i64 n, .int .i64 wi, .int .i64 dr]) ?_ rfl ⟨⟨t, g, l, s, e, b1, b2, n, wi, dr, rfl⟩, ?_⟩
    · simp [results, Try.results22, go_sem, r0, r1, r2, r3, r4, r5, r6]
    · have hh := F2.out.1.trans (D3.out.2.1.mono hlB)
      exact ((((((hh.setCell (Nat.le_refl _) _).setCell (Nat.le_refl _) _).setCell (Nat.le_refl _) _).setCell (Nat.le_refl _) _).setCell (Nat.le_refl _) _).setCell (Nat.le_refl _) _).setCell (Nat.le_refl _) _
end Go.Proofs.Ytnbbbmhfmjkhbaa
