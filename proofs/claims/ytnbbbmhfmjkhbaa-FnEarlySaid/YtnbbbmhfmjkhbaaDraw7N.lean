/-
  The draws of times near to the turns of what is kept.
-/
import Derived.Test.YtnbbbmhfmjkhbaaDraw7B
import Derived.BigRegion
import Derived.Deep.RegionHeld3
import Derived.Deep.RegionWith
import Derived.Deep.CutRange
namespace Go.Proofs.Ytnbbbmhfmjkhbaa
open Go.ChangeShapes Go.WideShapes Go.ChangeAt Go.RowKit Go.Sort
def turnF (l s e : Int) (i : Nat) : Int := [0, l, l + s, l + e, s, e].getD i 0
theorem Apart.drew {B : Nat} {w X : World} (h : Apart B w X) : Apart B w X.drew := ⟨h.size, h.cell, h.frozen⟩
theorem lst_keep {X wa : World} {B : Nat} (ha : Apart B (X.alloc (.cells #[.int .i64 0, .int .i64 0, .int .i64 (-1), .int .i64 1, .int .i64 300] 2)).drew wa) (hn : X.heap.size ≠ B) : ∀ i x, ([0, 0, -1, 1, 300] : List Int)[i]? = some x → wa.cell? ⟨X.heap.size, i, none⟩ = some (.int .i64 x) := by
  intro i x hx
  rw [ha.cell _ _ (by simp) hn, World.cell?_drew, World.cell?_alloc_mark]
  have hi : i < 5 := by have := (List.getElem?_eq_some_iff.1 hx).1; simpa using this
  have : i = 0 ∨ i = 1 ∨ i = 2 ∨ i = 3 ∨ i = 4 := by omega
  rcases this with rfl | rfl | rfl | rfl | rfl <;> simp at hx <;> subst hx <;> rfl
set_option maxHeartbeats 8000000 in
theorem l7Now_any (w : World) (B Q : Nat) (a : Option Addr) (len cap k : Nat) (t g l s e : Int) (b1 b2 : Bool) (hs : Src w B a len cap k) (hk : k ≤ 700) (hl2 : len ≤ 1048576) (hQ : MetaAt w Q t g l s e b1 b2) (hBQ : Q ≠ B)
    (hn : nearB t ∧ nearB g ∧ nearB l ∧ nearB s ∧ nearB e) :
    Calls Try.prog 54 #[.pointer (some ⟨B, 0, none⟩), .pointer (some ⟨Q, 0, none⟩)] w fun r w' => (∃ n : Int, r = .returned (.int .i64 n)) ∧ (∃ k', k' ≤ k + 4 ∧ Src w' B a len cap k') ∧ Below B w w' ∧ Apart B w w' := by
  have hlt := hs.lt
  have HS : Hid (Src w B a len cap k) := hs
  have HQ : Hid (MetaAt w Q t g l s e b1 b2) := hQ
  obtain ⟨⟨t0, t1⟩, ⟨g0, g1⟩, ⟨l0, l1⟩, ⟨s0, s1⟩, ⟨e0, e1⟩⟩ := hn
  obtain ⟨c0, c1, c2, c3, c4, _, _, _, _⟩ := hQ
  clear hs
  go_enter Try.func54, Try.ntmps54
  go_upto_region 1 with fail
  go_cut [5] from 7 to 37 (fun s5 wx => s5 = .slice (some ⟨w.heap.size, 0, none⟩) 6 6 ∧ wx = (w.alloc (.cells #[.int .i64 0, .int .i64 l, .int .i64 (l + s), .int .i64 (l + e), .int .i64 s, .int .i64 e] 2)).drew)
  case first =>
    go_region
    all_goals (go_wp2_with fail; go_meet; exact ⟨rfl, rfl⟩)
  case rest =>
  obtain ⟨rfl, hwc⟩ := hcut
  have hv : Hid (wc = (w.alloc (.cells #[.int .i64 0, .int .i64 l, .int .i64 (l + s), .int .i64 (l + e), .int .i64 s, .int .i64 e] 2)).drew) := hwc
  clear hwc
  generalize wc = v at *
  have HV : Hid (Src v B a len cap k ∧ Below B w v ∧ Apart B w v) := by
    rw [hv.out]
    exact ⟨(HS.out.alloc _).drew, ((Below.refl _ _).alloc (Nat.le_of_lt hlt) _).drew, (Apart.alloc B w (.cells #[.int .i64 0, .int .i64 l, .int .i64 (l + s), .int .i64 (l + e), .int .i64 s, .int .i64 e] 2)).drew⟩
  have HT : Hid (∀ i, i < 6 → v.cell? ⟨w.heap.size, i, none⟩ = some (.int .i64 (turnF l s e i))) := by
    rw [hv.out]
    intro i hi
    have : i = 0 ∨ i = 1 ∨ i = 2 ∨ i = 3 ∨ i = 4 ∨ i = 5 := by omega
    rcases this with rfl | rfl | rfl | rfl | rfl | rfl <;> simp [turnF]
  have HF : Hid (∀ i, i < 6 → -2 ≤ turnF l s e i ∧ turnF l s e i ≤ 2000000000000002) := by
    intro i hi
    have : i = 0 ∨ i = 1 ∨ i = 2 ∨ i = 3 ∨ i = 4 ∨ i = 5 := by omega
    rcases this with rfl | rfl | rfl | rfl | rfl | rfl <;> simp [turnF] <;> omega
  have HL : Hid (w.heap.size ≠ B ∧ w.heap.size < v.heap.size) := by
    rw [hv.out]; exact ⟨by omega, by simp⟩
  have HQv : Hid (MetaAt v Q t g l s e b1 b2) := HQ.out.apart HV.out.2.2 hBQ
  clear hv HS c0 c1 c2 c3 c4 HQ
  generalize w.heap.size = L at *
  generalize turnF l s e = F at *
  have D0 : Hid (Src v.drew B a len cap k ∧ Below B v v.drew ∧ Apart B v v.drew) := ⟨HV.out.1.drew, (Below.refl _ _).drew, (Apart.refl _ _).drew⟩
  have PL : Hid (∀ X, Src X B a len cap k → Src (X.alloc (.cells #[.int .i64 0, .int .i64 0, .int .i64 (-1), .int .i64 1, .int .i64 300] 2)) B a len cap k) := fun X h => h.alloc _
  have HKS : Hid (∀ X, Apart B v X → X.cell? ⟨Q, 0, none⟩ = some (.int .i64 t) ∧ X.cell? ⟨Q, 1, none⟩ = some (.int .i64 g) ∧ (∀ i, i < 6 → X.cell? ⟨L, i, none⟩ = some (.int .i64 (F i)))) := fun X ha => ⟨by rw [ha.cell _ _ HQv.out.lt hBQ]; exact HQv.out.c0, by rw [ha.cell _ _ HQv.out.lt hBQ]; exact HQv.out.c1, fun i hi => by rw [ha.cell _ _ HL.out.2 HL.out.1]; exact HT.out i hi⟩
  have HNB : Hid (v.heap.size ≠ B) := by have := HV.out.1.lt; show _ ≠ _; omega
  have D0A : Hid (Src (v.alloc (.cells #[.int .i64 0, .int .i64 0, .int .i64 (-1), .int .i64 1, .int .i64 300] 2)).drew B a len cap k ∧ Below B v (v.alloc (.cells #[.int .i64 0, .int .i64 0, .int .i64 (-1), .int .i64 1, .int .i64 300] 2)).drew ∧ Apart B v (v.alloc (.cells #[.int .i64 0, .int .i64 0, .int .i64 (-1), .int .i64 1, .int .i64 300] 2)).drew) := ⟨(HV.out.1.alloc _).drew, ((Below.refl _ _).alloc (Nat.le_of_lt HV.out.1.lt) _).drew, (Apart.alloc B v _).drew⟩
  have HNX : Hid (∀ X, Src X B a len cap k → Calls Try.prog 43 #[.pointer (some ⟨B, 0, none⟩), .int .i64 6] X fun e w' => (∃ v : Int, 0 ≤ v ∧ v < 6 ∧ e = .returned (.int .i64 v)) ∧ Src w' B a len cap (k + 1) ∧ Below B X w' ∧ Apart B X w') := fun X h => l1Next_a X B a len cap k 6 h (by omega) (by omega) (by omega) hl2
  have HPA : Hid (∀ X, Src X B a len cap (k + 1) → Calls Try.prog 42 #[.pointer (some ⟨B, 0, none⟩), .slice (some ⟨X.heap.size, 0, none⟩) 5 5] (X.alloc (.cells #[.int .i64 0, .int .i64 0, .int .i64 (-1), .int .i64 1, .int .i64 300] 2)) fun e w' => (∃ v : Int, v ∈ ([0, 0, -1, 1, 300] : List Int) ∧ e = .returned (.int .i64 v)) ∧ Src w' B a len cap (k + 2) ∧ Below B X w' ∧ Apart B X w') := fun X h => l1Pick_a X B a len cap (k + 1) h [0, 0, -1, 1, 300] 5 rfl (by omega) (by omega) (by omega) hl2
  have HPB : Hid (∀ X L, Src X B a len cap (k + 1) → L ≠ B → (∀ i x, ([0, 0, -1, 1, 300] : List Int)[i]? = some x → X.cell? ⟨L, i, none⟩ = some (.int .i64 x)) → Calls Try.prog 42 #[.pointer (some ⟨B, 0, none⟩), .slice (some ⟨L, 0, none⟩) 5 5] X fun e w' => (∃ v : Int, v ∈ ([0, 0, -1, 1, 300] : List Int) ∧ e = .returned (.int .i64 v)) ∧ Src w' B a len cap (k + 2) ∧ Below B X w' ∧ Apart B X w') := fun X L h hL hx => (l1Pick_any X B a len cap (k + 1) h L [0, 0, -1, 1, 300] hL 5 rfl hx (by omega) (by omega) (by omega) hl2).mono fun _ _ ⟨h1, h2⟩ => ⟨h1, (h.stepped h2).1, (h.stepped h2).2, .stepped h2⟩
  go_upto_region 2 with fail
  go_cut [6] from 38 to 56 (fun s6 wx => ∃ n : Int, s6 = .int .i64 n ∧ Src wx B a len cap (k + 2) ∧ Below B v wx ∧ Apart B v wx)
  case first =>
   go_region_held3 (fun X => X.cell? ⟨Q, 0, none⟩ = some (.int .i64 t) ∧ X.cell? ⟨Q, 1, none⟩ = some (.int .i64 g) ∧ (∀ i, i < 6 → X.cell? ⟨L, i, none⟩ = some (.int .i64 (F i))))
     (first | ((with_reducible refine HKS.out _ ?_); (with_reducible exact D2.out.2.2)) | ((with_reducible refine HKS.out _ ?_); (with_reducible exact D1.out.2.2)) | ((with_reducible refine HKS.out _ ?_); (with_reducible exact D0.out.2.2)) | ((with_reducible refine HKS.out _ ?_); (with_reducible exact D1.out.2.2.trans (Apart.alloc _ _ _))) | ((with_reducible refine HKS.out _ ?_); (with_reducible exact D0A.out.2.2)))
     (first
     | (go_at_call 42; (with_reducible refine (HPA.out wa ?_).mono ?_); (with_reducible exact D1.out.1); rintro r wb ⟨⟨p, pm, rfl⟩, hsb, hbb, hab⟩; have D2 : Hid (Src wb B a len cap (k + 2) ∧ Below B v wb ∧ Apart B v wb) := ⟨hsb, D1.out.2.1.trans hbb, D1.out.2.2.trans hab⟩; clear hsb hbb hab pm)
     | (go_at_call 42; (with_reducible refine (HPB.out wa _ ?_ ?_ ?_).mono ?_); (with_reducible exact D1.out.1); exact HNB.out; exact HLB.out; rintro r wb ⟨⟨p, pm, rfl⟩, hsb, hbb, hab⟩; have D2 : Hid (Src wb B a len cap (k + 2) ∧ Below B v wb ∧ Apart B v wb) := ⟨hsb, D1.out.2.1.trans hbb, D1.out.2.2.trans hab⟩; clear hsb hbb hab pm)
     | (go_at_call 43; (with_reducible refine (HNX.out _ ?_).mono ?_); (with_reducible exact D0.out.1); rintro r wa ⟨⟨u, u0, u1, rfl⟩, hsa, hba, haa⟩; have D1 : Hid (Src wa B a len cap (k + 1) ∧ Below B v wa ∧ Apart B v wa) := ⟨hsa, D0.out.2.1.trans hba, D0.out.2.2.trans haa⟩; clear hsa hba haa; obtain ⟨u, rfl⟩ := Int.eq_ofNat_of_zero_le u0; have hu : u < 6 := by omega)
     | (go_at_call 43; (with_reducible refine (HNX.out _ ?_).mono ?_); (with_reducible exact D0A.out.1); rintro r wa ⟨⟨u, u0, u1, rfl⟩, hsa, hba, haa⟩; have D1 : Hid (Src wa B a len cap (k + 1) ∧ Below B v wa ∧ Apart B v wa) := ⟨hsa, D0A.out.2.1.trans hba, D0A.out.2.2.trans haa⟩; have HLB : Hid (∀ i x, ([0, 0, -1, 1, 300] : List Int)[i]? = some x → wa.cell? ⟨v.heap.size, i, none⟩ = some (.int .i64 x)) := lst_keep haa HNB.out; clear hsa hba haa; obtain ⟨u, rfl⟩ := Int.eq_ofNat_of_zero_le u0; have hu : u < 6 := by omega))
   all_goals (go_wp2_with fail; go_meet; exact ⟨_, rfl, D2.out.1, D2.out.2.1, D2.out.2.2⟩)
  case rest =>
  obtain ⟨n, rfl, hsx, hbx, hax⟩ := hcut
  generalize wc = w3 at *
  have HS3 : Hid (Src w3 B a len cap (k + 2)) := hsx
  have HA3 : Hid (Below B w w3 ∧ Apart B w w3) := ⟨HV.out.2.1.trans hbx, HV.out.2.2.trans hax⟩
  have HQ3 : Hid (MetaAt w3 Q t g l s e b1 b2) := HQv.out.apart hax hBQ
  clear hsx hbx hax HKS D0 D0A HNX HPA HPB HNB PL HT HF HQv HL
  have HEND : Hid (∀ (X : World) (j : Nat) (z : Int), j ≤ 1 → Src X B a len cap (k + 2 + j) → Below B w X → Apart B w X → Calls Try.prog 42 #[.pointer (some ⟨B, 0, none⟩), .slice (some ⟨X.heap.size, 0, none⟩) 5 5] (X.alloc (.cells #[.int .i64 1000000000000000, .int .i64 1000000000000000, .int .i64 1000000000000000, .int .i64 1000000000000000, .int .i64 1000000000000001] 2)) fun e w' => (∃ v : Int, e = .returned (.int .i64 v)) ∧ Src w' B a len cap (k + 3 + j) ∧ Below B w w' ∧ Apart B w w') := fun X j z hj hs hb ha =>
    (l1Pick_a X B a len cap (k + 2 + j) hs [1000000000000000, 1000000000000000, 1000000000000000, 1000000000000000, 1000000000000001] 5 rfl (by omega) (by omega) (by omega) hl2).mono fun _ _ ⟨⟨v, _, h1⟩, h2, h3, h4⟩ => ⟨⟨v, h1⟩, by rw [show k + 3 + j = k + 2 + j + 1 by omega]; exact h2, hb.trans h3, ha.trans h4⟩
  have HMIN : Hid (∀ x y w, Calls Try.prog 67 #[.int .i64 x, .int .i64 y] w fun r w' => r = .returned (.int .i64 (if x < y then x else y)) ∧ w' = w) := l1Min_all
  have c0 := HQ3.out.c0
  by_cases hnt : n < t
  · go_wp2_with fail
    refine (l1Chance_a _ B a len cap (k + 2) 9 HS3.out (by omega) (by omega) (by omega) hl2).mono ?_
    rintro r w4 ⟨⟨b, rfl⟩, hs4, hb4, ha4⟩
    have HS4 : Hid (Src w4 B a len cap (k + 2 + 1)) := hs4
    have HA4 : Hid (Below B w w4 ∧ Apart B w w4) := ⟨HA3.out.1.trans hb4, HA3.out.2.trans ha4⟩
    have c4 := (HQ3.out.apart ha4 hBQ).c0
    clear hs4 hb4 ha4 HS3 HA3 c0
    cases b
    all_goals
      go_wp2_with fail
      refine (HEND.out _ 1 0 (by omega) HS4.out HA4.out.1 HA4.out.2).mono ?_
      rintro r w5 ⟨⟨y, rfl⟩, hs5, hb5, ha5⟩
      have F5 : Hid (Src w5 B a len cap (k + 3 + 1) ∧ Below B w w5 ∧ Apart B w w5) := ⟨hs5, hb5, ha5⟩
      clear hs5 hb5 ha5
      go_wp2_with fail
      refine (HMIN.out _ _ _).mono ?_
      rintro r w6 ⟨rfl, rfl⟩
      generalize (if _ < y then _ else y) = z
      go_wp2_with fail
      go_ret
      exact ⟨⟨_, rfl⟩, ⟨_, by omega, F5.out.1⟩, F5.out.2.1, F5.out.2.2⟩
  · go_wp2_with fail
    refine (HEND.out _ 0 0 (by omega) HS3.out HA3.out.1 HA3.out.2).mono ?_
    rintro r w5 ⟨⟨y, rfl⟩, hs5, hb5, ha5⟩
    have F5 : Hid (Src w5 B a len cap (k + 3 + 0) ∧ Below B w w5 ∧ Apart B w w5) := ⟨hs5, hb5, ha5⟩
    clear hs5 hb5 ha5
    go_wp2_with fail
    refine (HMIN.out _ _ _).mono ?_
    rintro r w6 ⟨rfl, rfl⟩
    generalize (if _ < y then _ else y) = z
    go_wp2_with fail
    go_ret
    exact ⟨⟨_, rfl⟩, ⟨_, by omega, F5.out.1⟩, F5.out.2.1, F5.out.2.2⟩
end Go.Proofs.Ytnbbbmhfmjkhbaa
