/-
  The draws of StoreLife's and MetaOf's arguments.
-/
import Derived.Test.YtnbbbmhfmjkhbaaDraw6P
import Derived.Test.YtnbbbmhfmjkhbaaDraw7E
namespace Go.Proofs.Ytnbbbmhfmjkhbaa
open Go.ChangeShapes Go.WideShapes Go.ChangeAt Go.RowKit Go.Sort
def SomeP2 (r : Ending) : Prop := ∃ (b0 b1 b2 : Bool) (l s e g : Int) (st ng : Int), r = .returned (.tuple #[.agg #[.bool b0, .bool b1, .bool b2, .int .i64 l, .int .i64 s, .int .i64 e, .int .i64 g], .int .i64 st, .int .i64 ng])
def SomeP3 (r : Ending) : Prop := ∃ (b0 b1 b2 : Bool) (l s e g : Int) (st ng n : Int), r = .returned (.tuple #[.agg #[.bool b0, .bool b1, .bool b2, .int .i64 l, .int .i64 s, .int .i64 e, .int .i64 g], .int .i64 st, .int .i64 ng, .int .i64 n])
theorem pol_cells {X : World} {Q : Nat} {b0 b1 b2 : Bool} {l s e g : Int} (k : PolAt X Q b0 b1 b2 l s e g) : X.cell? ⟨Q, 0, none⟩ = some (.bool b0) ∧ X.cell? ⟨Q, 1, none⟩ = some (.bool b1) ∧ X.cell? ⟨Q, 2, none⟩ = some (.bool b2) ∧ X.cell? ⟨Q, 3, none⟩ = some (.int .i64 l) ∧ X.cell? ⟨Q, 4, none⟩ = some (.int .i64 s) ∧ X.cell? ⟨Q, 5, none⟩ = some (.int .i64 e) ∧ X.cell? ⟨Q, 6, none⟩ = some (.int .i64 g) := ⟨k.c0, k.c1, k.c2, k.c3, k.c4, k.c5, k.c6⟩
set_option maxHeartbeats 4000000 in
theorem drawLife_any (w : World) (a : Option Addr) (len cap : Nat) (hc : CodeRow w w.heap.size a len) (hl2 : len ≤ 1048576) :
    Calls Try.prog 44 #[.slice a len cap] w fun r w' => SomeP2 r ∧ Below w.heap.size w w' := by
  obtain ⟨v, hv⟩ : ∃ X, Hid (X = w.alloc (.cells #[.bool false, .bool false, .bool false, .int .i64 0, .int .i64 0, .int .i64 0, .int .i64 0] 39)) := ⟨_, rfl⟩
  have bv : Below w.heap.size w v := by rw [hv.out]; exact (Below.refl _ _).alloc (Nat.le_refl _) _
  have HB : Hid (Below w.heap.size w v) := bv
  have HM : Hid (PolAt v w.heap.size false false false 0 0 0 0) := by rw [hv.out]; exact PolAt.new w _ _ _ _ _ _ _ _
  have HC : Hid (CodeRow v v.heap.size a len) := (hc.below bv).mono bv.size
  clear hc bv
  go_enter Try.func44, Try.ntmps44
  go_upto_region 1 with fail
  rw [← hv.out]
  clear hv
  go_wp2_with fail
  refine (l1Later_any v a len cap 1 (by omega) HC.out).mono ?_
  rintro r w0 ⟨rfl, hs0, hb0⟩
  have hBl : w.heap.size < v.heap.size := HM.out.lt
  have F0 : Hid (Src w0 v.heap.size a len cap 12 ∧ Below w.heap.size w w0 ∧ PolAt w0 w.heap.size false false false 0 0 0 0 ∧ CodeRow w0 w0.heap.size a len) := ⟨hs0, HB.out.trans (hb0.mono HB.out.size), HM.out.keep hb0, (HC.out.below hb0).mono hb0.size⟩
  clear hs0 hb0 HC HB HM
  generalize v.heap.size = B at *
  clear v
  go_wp2_with fail
  refine (drawPolicy_any w0 a len cap F0.out.2.2.2 hl2).mono ?_
  rintro r w1 ⟨⟨b0, b1, b2, l, s, e, g, rfl⟩, hb1⟩
  have F1 : Hid (Src w1 B a len cap 12 ∧ Below w.heap.size w w1 ∧ PolAt w1 w.heap.size false false false 0 0 0 0) := by
    obtain ⟨f1, f2, f3, f4⟩ := F0.out
    exact ⟨f1.below (hb1.mono f1.lt), f2.trans (hb1.mono f2.size), f3.keep hb1⟩
  clear hb1 F0
  go_wp2_with fail
  refine (l1Pick_a _ B a len cap 12 F1.out.1 [200, 200, 404, 410, 500, 304, 199, 600] 8 rfl (by omega) (by omega) (by omega) hl2).mono ?_
  rintro r w2 ⟨⟨st, _, rfl⟩, hs2, hb2, ha2⟩
  have F2 : Hid (Src w2 B a len cap 13 ∧ Below w.heap.size w w2 ∧ PolAt w2 w.heap.size false false false 0 0 0 0) := by
    obtain ⟨f1, f2, f3⟩ := F1.out
    exact ⟨hs2, f2.trans (hb2.mono (Nat.le_of_lt hBl)), f3.apart ha2 (by omega)⟩
  clear hs2 hb2 ha2 F1
  go_wp2_with fail
  refine (l1Pick_a _ B a len cap 13 F2.out.1 [0, 1000, 1000, 1000000000000000, -1] 5 rfl (by omega) (by omega) (by omega) hl2).mono ?_
  rintro r w3 ⟨⟨ng, _, rfl⟩, hs3, hb3, ha3⟩
  have F3 : Hid (Below w.heap.size w w3 ∧ PolAt w3 w.heap.size false false false 0 0 0 0) := by
    obtain ⟨f1, f2, f3⟩ := F2.out
    exact ⟨f2.trans (hb3.mono (Nat.le_of_lt hBl)), f3.apart ha3 (by omega)⟩
  clear hs3 hb3 ha3 F2
  have ME : Hid _ := F3.out.2.allP b0 b1 b2 l s e g
  obtain ⟨z0, z1, z2, z3, z4, z5, z6, zf, _⟩ := F3.out.2
  have zf0 := zf 0
  have zf1 := zf 1
  have zf2 := zf 2
  have zf3 := zf 3
  have zf4 := zf 4
  have zf5 := zf 5
  have zf6 := zf 6
  clear zf
  go_wp2_with fail
  have r0 := ME.out.c0
  have r1 := ME.out.c1
  have r2 := ME.out.c2
  have r3 := ME.out.c3
  have r4 := ME.out.c4
  have r5 := ME.out.c5
  have r6 := ME.out.c6
  refine bodyPost_ret (v := .tuple #[.agg #[.bool b0, .bool b1, .bool b2, .int .i64 l, .int .i64 s, .int .i64 e, .int .i64 g], .int .i64 st, .int .i64 ng]) ?_ rfl ⟨⟨b0, b1, b2, l, s, e, g, st, ng, rfl⟩, ?_⟩
  · simp [results, Try.results44, go_sem, r0, r1, r2, r3, r4, r5, r6]
  · exact ((((((F3.out.1.setCell (Nat.le_refl _) _).setCell (Nat.le_refl _) _).setCell (Nat.le_refl _) _).setCell (Nat.le_refl _) _).setCell (Nat.le_refl _) _).setCell (Nat.le_refl _) _).setCell (Nat.le_refl _) _
theorem lst5_keep {X wa : World} (hb : Below X.heap.size X wa) {Y : World} {L : Nat} (h : X = (Y.alloc (.cells #[.int .i64 0, .int .i64 1000, .int .i64 77, .int .i64 1000000000000000, .int .i64 (-1)] 2)).drew) (hL : L = Y.heap.size) : ∀ i x, ([0, 1000, 77, 1000000000000000, -1] : List Int)[i]? = some x → wa.cell? ⟨L, i, none⟩ = some (.int .i64 x) := by
  intro i x hx
  rw [hb.cell (p := ⟨L, i, none⟩) (by rw [h, hL]; simp), h, hL, World.cell?_drew, World.cell?_alloc_mark]
  rcases i with _ | _ | _ | _ | _ | i <;> simp at hx <;> subst hx <;> rfl
theorem d1_of {v1 wa : World} {a : Option Addr} {len cap k : Nat} (h0 : Below v1.heap.size v1 (v1.alloc (.cells #[.int .i64 0, .int .i64 1000, .int .i64 77, .int .i64 1000000000000000, .int .i64 (-1)] 2)).drew) (hb : Below (v1.alloc (.cells #[.int .i64 0, .int .i64 1000, .int .i64 77, .int .i64 1000000000000000, .int .i64 (-1)] 2)).drew.heap.size (v1.alloc (.cells #[.int .i64 0, .int .i64 1000, .int .i64 77, .int .i64 1000000000000000, .int .i64 (-1)] 2)).drew wa) (hs : Src wa (v1.alloc (.cells #[.int .i64 0, .int .i64 1000, .int .i64 77, .int .i64 1000000000000000, .int .i64 (-1)] 2)).drew.heap.size a len cap k) : Below v1.heap.size v1 wa ∧ Below v1.heap.size v1 wa ∧ Src wa (v1.heap.size + 1) a len cap k := by
  have e : (v1.alloc (.cells #[.int .i64 0, .int .i64 1000, .int .i64 77, .int .i64 1000000000000000, .int .i64 (-1)] 2)).drew.heap.size = v1.heap.size + 1 := by simp
  rw [e] at hs hb
  exact ⟨h0.trans (hb.mono (Nat.le_succ _)), h0.trans (hb.mono (Nat.le_succ _)), hs⟩
set_option maxHeartbeats 8000000 in
theorem drawMof_any (w : World) (a : Option Addr) (len cap : Nat) (hc : CodeRow w w.heap.size a len) (hl2 : len ≤ 1048576) :
    Calls Try.prog 24 #[.slice a len cap] w fun r w' => SomeP3 r ∧ Below w.heap.size w w' := by
  obtain ⟨v, hv⟩ : ∃ X, Hid (X = w.alloc (.cells #[.bool false, .bool false, .bool false, .int .i64 0, .int .i64 0, .int .i64 0, .int .i64 0] 39)) := ⟨_, rfl⟩
  have bv : Below w.heap.size w v := by rw [hv.out]; exact (Below.refl _ _).alloc (Nat.le_refl _) _
  have HB : Hid (Below w.heap.size w v) := bv
  have HM : Hid (PolAt v w.heap.size false false false 0 0 0 0) := by rw [hv.out]; exact PolAt.new w _ _ _ _ _ _ _ _
  have HC : Hid (CodeRow v v.heap.size a len) := (hc.below bv).mono bv.size
  clear hc bv
  go_enter Try.func24, Try.ntmps24
  go_upto_region 1 with fail
  rw [← hv.out]
  clear hv
  go_wp2_with fail
  refine (drawLife_any v a len cap HC.out hl2).mono ?_
  rintro r w1 ⟨⟨b0, b1, b2, l, s, e, g, st, ng, rfl⟩, hb1⟩
  obtain ⟨v1, hv1⟩ : ∃ X, Hid (X = w1.alloc (.cells #[.bool b0, .bool b1, .bool b2, .int .i64 l, .int .i64 s, .int .i64 e, .int .i64 g] 39)) := ⟨_, rfl⟩
  have al : Below w1.heap.size w1 v1 := by rw [hv1.out]; exact (Below.refl _ _).alloc (Nat.le_refl _) _
  have F1 : Hid (Below w.heap.size w v1 ∧ PolAt v1 w.heap.size false false false 0 0 0 0 ∧ PolAt v1 w1.heap.size b0 b1 b2 l s e g ∧ CodeRow v1 v1.heap.size a len ∧ w.heap.size < w1.heap.size) := by
    have q := HB.out.trans (hb1.mono HB.out.size)
    have q2 := hb1.trans (al.mono hb1.size)
    refine ⟨q.trans (al.mono q.size), (HM.out.keep hb1).keep al, ?_, (HC.out.below q2).mono q2.size, (HM.out.keep hb1).lt⟩
    rw [hv1.out]; exact PolAt.new w1 _ _ _ _ _ _ _ _
  clear hb1 al HB HM HC
  go_upto_region 2 with fail
  rw [← hv1.out]
  clear hv1
  generalize w1.heap.size = Q at *
  clear w1 v
  have hne3 : w.heap.size ≠ Q := by have := F1.out.2.2.2.2; omega
  have hQl : Q < v1.heap.size := F1.out.2.2.1.lt
  have hwl : w.heap.size < v1.heap.size := by have := F1.out.2.2.2.2; omega
  have D0 : Hid (Below v1.heap.size v1 v1.drew) := (Below.refl _ _).drew
  have D0A : Hid (Below v1.heap.size v1 (v1.alloc (.cells #[.int .i64 0, .int .i64 1000, .int .i64 77, .int .i64 1000000000000000, .int .i64 (-1)] 2)).drew) := ((Below.refl _ _).alloc (Nat.le_refl _) _).drew
  have HKS : Hid (∀ X, Below v1.heap.size v1 X → (fun X : World => X.cell? ⟨Q, 0, none⟩ = some (.bool b0) ∧ X.cell? ⟨Q, 1, none⟩ = some (.bool b1) ∧ X.cell? ⟨Q, 2, none⟩ = some (.bool b2) ∧ X.cell? ⟨Q, 3, none⟩ = some (.int .i64 l) ∧ X.cell? ⟨Q, 4, none⟩ = some (.int .i64 s) ∧ X.cell? ⟨Q, 5, none⟩ = some (.int .i64 e) ∧ X.cell? ⟨Q, 6, none⟩ = some (.int .i64 g)) X) := fun X hb => pol_cells (F1.out.2.2.1.keep hb)
  have HLT : Hid (∀ X, Below v1.heap.size v1 X → Calls Try.prog 41 #[.slice a len cap, .int .i64 3] X fun e w' => e = .returned (.pointer (some ⟨X.heap.size, 0, none⟩)) ∧ Src w' X.heap.size a len cap 26 ∧ Below X.heap.size X w') := fun X hb => l1Later_any X a len cap 3 (by omega) ((F1.out.2.2.2.1.below hb).mono hb.size)
  have HPA : Hid (∀ X B, Src X B a len cap 26 → Calls Try.prog 42 #[.pointer (some ⟨B, 0, none⟩), .slice (some ⟨X.heap.size, 0, none⟩) 5 5] (X.alloc (.cells #[.int .i64 0, .int .i64 1000, .int .i64 77, .int .i64 1000000000000000, .int .i64 (-1)] 2)) fun e w' => (∃ v : Int, e = .returned (.int .i64 v)) ∧ Below B X w') := fun X B h => (l1Pick_a X B a len cap 26 h [0, 1000, 77, 1000000000000000, -1] 5 rfl (by omega) (by omega) (by omega) hl2).mono fun _ _ ⟨⟨v, _, h1⟩, _, h3, _⟩ => ⟨⟨v, h1⟩, h3⟩
  have HPB : Hid (∀ X B L, Src X B a len cap 26 → L ≠ B → (∀ i x, ([0, 1000, 77, 1000000000000000, -1] : List Int)[i]? = some x → X.cell? ⟨L, i, none⟩ = some (.int .i64 x)) → Calls Try.prog 42 #[.pointer (some ⟨B, 0, none⟩), .slice (some ⟨L, 0, none⟩) 5 5] X fun e w' => (∃ v : Int, e = .returned (.int .i64 v)) ∧ Below B X w') := fun X B L h hL hx => (l1Pick_any X B a len cap 26 h L [0, 1000, 77, 1000000000000000, -1] hL 5 rfl hx (by omega) (by omega) (by omega) hl2).mono fun _ _ ⟨⟨v, _, h1⟩, h2⟩ => ⟨⟨v, h1⟩, (h.stepped h2).2⟩
  have HST : Hid (∀ X, Below v1.heap.size v1 X → (fun X : World => X.cell? ⟨Q, 0, none⟩ = some (.bool b0) ∧ X.cell? ⟨Q, 1, none⟩ = some (.bool b1) ∧ X.cell? ⟨Q, 2, none⟩ = some (.bool b2) ∧ X.cell? ⟨Q, 3, none⟩ = some (.int .i64 l) ∧ X.cell? ⟨Q, 4, none⟩ = some (.int .i64 s) ∧ X.cell? ⟨Q, 5, none⟩ = some (.int .i64 e) ∧ X.cell? ⟨Q, 6, none⟩ = some (.int .i64 g)) (((((((X.setCell ⟨w.heap.size, 0, none⟩ (.bool b0)).setCell ⟨w.heap.size, 1, none⟩ (.bool b1)).setCell ⟨w.heap.size, 2, none⟩ (.bool b2)).setCell ⟨w.heap.size, 3, none⟩ (.int .i64 l)).setCell ⟨w.heap.size, 4, none⟩ (.int .i64 s)).setCell ⟨w.heap.size, 5, none⟩ (.int .i64 e)).setCell ⟨w.heap.size, 6, none⟩ (.int .i64 g))) := fun X hb => pol_cells ((((((((F1.out.2.2.1.keep hb).offP hne3).offP hne3).offP hne3).offP hne3).offP hne3).offP hne3).offP hne3)
  go_region_held3 (fun X => X.cell? ⟨Q, 0, none⟩ = some (.bool b0) ∧ X.cell? ⟨Q, 1, none⟩ = some (.bool b1) ∧ X.cell? ⟨Q, 2, none⟩ = some (.bool b2) ∧ X.cell? ⟨Q, 3, none⟩ = some (.int .i64 l) ∧ X.cell? ⟨Q, 4, none⟩ = some (.int .i64 s) ∧ X.cell? ⟨Q, 5, none⟩ = some (.int .i64 e) ∧ X.cell? ⟨Q, 6, none⟩ = some (.int .i64 g))
    (first | ((with_reducible refine HKS.out _ ?_); (with_reducible exact D2.out)) | ((with_reducible refine HKS.out _ ?_); (with_reducible exact D1.out.1)) | ((with_reducible refine HKS.out _ ?_); (with_reducible exact D0.out)) | ((with_reducible refine HKS.out _ ?_); (with_reducible exact D0A.out)) | ((with_reducible refine HST.out _ ?_); (with_reducible exact D2.out)) | ((with_reducible refine HKS.out _ ?_); (with_reducible exact D1.out.2.1)))
    (first
    | (go_at_call 42; (with_reducible refine (HPA.out wa _ ?_).mono ?_); (with_reducible exact D1.out.2.2); rintro r wb ⟨⟨n, rfl⟩, hb3⟩; have D2 : Hid (Below v1.heap.size v1 wb) := D1.out.1.trans (hb3.mono (by exact Nat.le_refl _)); clear hb3; have MZ := F1.out.2.1.keep D2.out; have ME : Hid _ := MZ.allP b0 b1 b2 l s e g; have z0 := MZ.c0; have z1 := MZ.c1; have z2 := MZ.c2; have z3 := MZ.c3; have z4 := MZ.c4; have z5 := MZ.c5; have z6 := MZ.c6; have y0 := MZ.fr 0; have y1 := MZ.fr 1; have y2 := MZ.fr 2; have y3 := MZ.fr 3; have y4 := MZ.fr 4; have y5 := MZ.fr 5; have y6 := MZ.fr 6; clear MZ)
    | (go_at_call 42; (with_reducible refine (HPB.out wa _ _ ?_ ?_ ?_).mono ?_); (with_reducible exact D1.out.2.2); exact HNB.out; exact HLB.out; rintro r wb ⟨⟨n, rfl⟩, hb3⟩; have D2 : Hid (Below v1.heap.size v1 wb) := D1.out.1.trans (hb3.mono HLE.out); clear hb3; have MZ := F1.out.2.1.keep D2.out; have ME : Hid _ := MZ.allP b0 b1 b2 l s e g; have z0 := MZ.c0; have z1 := MZ.c1; have z2 := MZ.c2; have z3 := MZ.c3; have z4 := MZ.c4; have z5 := MZ.c5; have z6 := MZ.c6; have y0 := MZ.fr 0; have y1 := MZ.fr 1; have y2 := MZ.fr 2; have y3 := MZ.fr 3; have y4 := MZ.fr 4; have y5 := MZ.fr 5; have y6 := MZ.fr 6; clear MZ)
    | (go_at_call 41; (with_reducible refine (HLT.out _ ?_).mono ?_); (with_reducible exact D0.out); rintro r wa ⟨rfl, hsa, hba⟩; have D1 : Hid (Below v1.heap.size v1 wa ∧ Below v1.heap.size v1 (wa.alloc (.cells #[.int .i64 0, .int .i64 1000, .int .i64 77, .int .i64 1000000000000000, .int .i64 (-1)] 2)) ∧ Src wa v1.heap.size a len cap 26) := ⟨D0.out.trans hba, (D0.out.trans hba).alloc (D0.out.trans hba).size _, hsa⟩; clear hsa hba)
    | (go_at_call 41; (with_reducible refine (HLT.out _ ?_).mono ?_); (with_reducible exact D0A.out); rintro r wa ⟨rfl, hsa, hba⟩; have D1 : Hid (Below v1.heap.size v1 wa ∧ Below v1.heap.size v1 wa ∧ Src wa (v1.heap.size + 1) a len cap 26) := d1_of D0A.out hba hsa; have HNB : Hid (v1.heap.size ≠ v1.heap.size + 1) := (by show _ ≠ _; omega); have HLE : Hid (v1.heap.size ≤ v1.heap.size + 1) := Nat.le_succ _; have HLB : Hid (∀ i x, ([0, 1000, 77, 1000000000000000, -1] : List Int)[i]? = some x → wa.cell? ⟨v1.heap.size, i, none⟩ = some (.int .i64 x)) := lst5_keep hba rfl rfl; clear hsa hba))
  all_goals
    go_wp2_with fail
    have r0 := ME.out.c0
    have r1 := ME.out.c1
    have r2 := ME.out.c2
    have r3 := ME.out.c3
    have r4 := ME.out.c4
    have r5 := ME.out.c5
    have r6 := ME.out.c6
    refine bodyPost_ret (v := .tuple #[.agg #[.bool b0, .bool b1, .bool b2, .int .i64 l, .int .i64 s, .int .i64 e, .int .i64 g], .int .i64 st, .int .i64 ng, .int .i64 n]) ?_ rfl ⟨⟨b0, b1, b2, l, s, e, g, st, ng, n, rfl⟩, ?_⟩
    · simp [results, Try.results24, go_sem, r0, r1, r2, r3, r4, r5, r6]
    · have hh := F1.out.1.trans (D2.out.mono (Nat.le_of_lt hwl))
      exact ((((((hh.setCell (Nat.le_refl _) _).setCell (Nat.le_refl _) _).setCell (Nat.le_refl _) _).setCell (Nat.le_refl _) _).setCell (Nat.le_refl _) _).setCell (Nat.le_refl _) _).setCell (Nat.le_refl _) _
end Go.Proofs.Ytnbbbmhfmjkhbaa
