/-
  A copy of a bulkhead, and who is found in one, by the model.
-/
import Derived.Test.YtmgidcigihpbeaaWtMore
import Derived.Test.YtmgidcigihpbeaaBlkPlain
namespace Go.Proofs.Ytmgidcigihpbeaa
open Go.ChangeShapes Go.WideShapes Go.ChangeAt Go.RowKit Go.Sort
def CopyB (w : World) (base : Nat) (y : Int) (l : List Wt) (e : Ending) : Prop := ∃ a c, e = .returned (.agg #[.int .i64 y, .slice a l.length c]) ∧ OwnWt w base (.slice a l.length c) l
theorem OwnWt.gw {g : Nat} {w w' : World} {base : Nat} {v : Value} {l : List Wt} (h : OwnWt w base v l) (k : w.grownBy w' (some g)) (hne : g < base) : OwnWt w' base v l := World.ownsRow.kept h k (by
  cases e : v.ownBlock with
  | none => exact .inl rfl
  | some q => right; intro e2; rw [Option.some.inj e2] at e; have := row_ge h g e; omega)
set_option maxRecDepth 100000 in
set_option maxHeartbeats 4000000 in
theorem specCopyB_any (w : World) (B : Nat) (y : Int) (a : Option Addr) (cap : Nat) (l : List Wt) (hl : l.length ≤ 1048576) (hB : D2 w B (.int .i64 y) (.slice a l.length cap)) (hi : WtIn w a l) :
    Calls Try.prog 48 #[.pointer (some ⟨B, 0, none⟩)] w fun e w' => CopyB w' w.heap.size y l e ∧ Below w.heap.size w w' := by
  obtain ⟨W, hW⟩ : ∃ W, W = w.alloc (.cells #[.int .i64 0, .slice none 0 0] 26) := ⟨_, rfl⟩
  have HW : Hid (W = w.alloc (.cells #[.int .i64 0, .slice none 0 0] 26)) := hW
  have bW : Below w.heap.size w W := by rw [hW]; exact (Below.refl _ _).alloc (Nat.le_refl _) _
  have f0 : D2 W w.heap.size (.int .i64 0) (.slice none 0 0) := by rw [hW]; exact D2.new w _ _ _
  have hsz : W.heap.size = w.heap.size + 1 := by rw [hW]; simp
  have K0 : Hid (Below w.heap.size w W ∧ W.heap.size = w.heap.size + 1 ∧ D2 W w.heap.size (.int .i64 0) (.slice none 0 0)) := ⟨bW, hsz, f0⟩
  obtain ⟨n, hn⟩ : ∃ n, l.length = n := ⟨_, rfl⟩
  have HN : Hid (l.length = n) := hn
  rw [hn] at hB hl
  have HKS : Hid (∀ X, Below w.heap.size w X → X.cell? ⟨B, 0, none⟩ = some (.int .i64 y) ∧ X.cell? ⟨B, 1, none⟩ = some (.slice a n cap)) := fun X hb => ⟨(hB.keep hb).c0, (hB.keep hb).c1⟩
  have HI : Hid (∀ X, Below w.heap.size w X → WtIn X a l) := fun X hb => hi.keep hb
  have B0 : Hid (Below w.heap.size w W.drew) := bW.drew
  have B1 : Hid (Below w.heap.size w (W.drew.alloc (.cells #[] 40))) := (bW.drew).alloc bW.size _
  have O1 : Hid (OwnWt (W.drew.alloc (.cells #[] 40)) W.heap.size (.slice (some ⟨W.heap.size, 0, none⟩) 0 0) []) := OwnWt.made0 W.drew W.heap.size (Nat.le_refl _)
  have Z1 : Hid (W.heap.size ≤ (W.drew.alloc (.cells #[] 40)).heap.size) := by show _ ≤ _; simp
  have B2 : Hid (Below w.heap.size w (W.alloc (.cells #[] 40)).drew) := (bW.alloc bW.size _).drew
  have O2 : Hid (OwnWt (W.alloc (.cells #[] 40)).drew W.heap.size (.slice (some ⟨W.heap.size, 0, none⟩) 0 0) []) := (OwnWt.made0 W W.heap.size (Nat.le_refl _)).below ((Below.refl _ _).drew)
  have Y1 : Hid (Below W.heap.size W (W.drew.alloc (.cells #[] 40))) := ((Below.refl _ _).drew).alloc (Nat.le_refl _) _
  have Y2 : Hid (Below W.heap.size W (W.alloc (.cells #[] 40)).drew) := ((Below.refl _ _).alloc (Nat.le_refl _) _).drew
  have Z2 : Hid (W.heap.size ≤ (W.alloc (.cells #[] 40)).drew.heap.size) := by show _ ≤ _; simp
  clear hW bW f0 hsz hi hB hn
  go_enter Try.func48, Try.ntmps48
  go_wp2_with fail
  rw [← HW.out]
  go_region_held3 (fun X => X.cell? ⟨B, 0, none⟩ = some (.int .i64 y) ∧ X.cell? ⟨B, 1, none⟩ = some (.slice a n cap))
    (first | exact HKS.out _ ((BA.out.setCell (Nat.le_refl _) _).setCell (Nat.le_refl _) _) | exact HKS.out _ BA.out | exact HKS.out _ B1.out | exact HKS.out _ B0.out | exact HKS.out _ B2.out)
    (first
    | (refine step_appendInWt _ (by rfl) _ _ (by rfl) W.heap.size _ [] l a cap n HN.out (by rfl) O1.out (by rfl) (HI.out _ B1.out) (by simp; omega) Z1.out ?_; intro v1 w1 ho1 hb1; have BA : Hid (Below w.heap.size w w1) := B1.out.trans (hb1.mono K0.out.1.size); obtain ⟨va, vc, rfl, _, _⟩ := ho1.in; simp only [List.nil_append] at ho1 ⊢; rw [HN.out] at ho1 ⊢; have OA : Hid (OwnWt w1 W.heap.size (.slice va n vc) l) := ho1; obtain ⟨r0, r1, rf, _⟩ := (K0.out.2.2.keep (Y1.out)).low hb1 (by rw [K0.out.2.1]; omega); clear ho1 hb1)
    | (refine step_appendInWt _ (by rfl) _ _ (by rfl) W.heap.size _ [] l a cap n HN.out (by rfl) O2.out (by rfl) (HI.out _ B2.out) (by simp; omega) Z2.out ?_; intro v1 w1 ho1 hb1; have BA : Hid (Below w.heap.size w w1) := B2.out.trans (hb1.mono K0.out.1.size); obtain ⟨va, vc, rfl, _, _⟩ := ho1.in; simp only [List.nil_append] at ho1 ⊢; rw [HN.out] at ho1 ⊢; have OA : Hid (OwnWt w1 W.heap.size (.slice va n vc) l) := ho1; obtain ⟨r0, r1, rf, _⟩ := (K0.out.2.2.keep (Y2.out)).low hb1 (by rw [K0.out.2.1]; omega); clear ho1 hb1))
  all_goals
    have HO : Hid (∀ x y, OwnWt ((w1.setCell ⟨w.heap.size, 0, none⟩ x).setCell ⟨w.heap.size, 1, none⟩ y) w.heap.size (.slice va n vc) l) := fun x y => ((OA.out.gw (gwSet _ _ _ _) (by rw [K0.out.2.1]; omega)).gw (gwSet _ _ _ _) (by rw [K0.out.2.1]; omega)).lower K0.out.1.size
    have HBL : Hid (Below w.heap.size w w1) := BA.out
    clear OA BA HKS HI B0 B1 B2 O1 O2 Z1 Z2 Y1 Y2 K0
    go_wp2_with fail
    exact bodyPost_ret (v := .agg #[.int .i64 y, .slice va n vc]) (by simp [results, Try.results48, go_sem, r0, r1]) rfl ⟨⟨va, vc, by rw [HN.out], by rw [HN.out]; exact HO.out _ _⟩, (HBL.out.setCell (Nat.le_refl _) _).setCell (Nat.le_refl _) _⟩
/-- The place of who has this number, or -1. -/
def FindB (l : List Wt) (x : Int) (e : Ending) : Prop := (∃ k : Nat, e = .returned (.int .i64 (k : Int)) ∧ k ≤ 1048576 ∧ hasW l x = true) ∨ (e = .returned (.int .i64 (-1)) ∧ hasW l x = false)
set_option maxRecDepth 100000 in
set_option maxHeartbeats 4000000 in
theorem specFindB_any (w : World) (B : Nat) (y : Int) (a : Option Addr) (cap : Nat) (l : List Wt) (x : Int) (hl : l.length ≤ 1048576) (hB : D2 w B (.int .i64 y) (.slice a l.length cap)) (hi : WtIn w a l) :
    Calls Try.prog 47 #[.pointer (some ⟨B, 0, none⟩), .int .i64 x] w fun e w' => FindB l x e ∧ w' = w := by
  have HI : Hid (WtIn w a l) := hi
  clear hi
  obtain ⟨n, hn⟩ : ∃ n, l.length = n := ⟨_, rfl⟩
  rw [hn] at hl hB
  have HN : Hid (l.length = n) := hn
  clear hn
  obtain ⟨b0, b1, bf, _⟩ := hB
  go_enter Try.func47, Try.ntmps47
  go_wp2_with fail
  go_loopw [5] (fun i wr => ∃ k : Nat, k ≤ n ∧ i = .int .i64 k ∧ (∀ (j : Nat) r, j < k → l[j]? = some r → r.wi ≠ x) ∧ wr = w) (fun i _ => n - (intOf i).toNat)
  case atStart => exact ⟨0, Nat.zero_le _, rfl, fun j x h => by omega, rfl⟩
  case round =>
    obtain ⟨k, hk, rfl, hA, rfl⟩ := hrel
    have HA : Hid (∀ (j : Nat) r, j < k → l[j]? = some r → r.wi ≠ x) := hA
    clear hA
    by_cases hlt : k < n
    · obtain ⟨r, hr⟩ : ∃ r, l[k]? = some r := ⟨l[k]'(by have := HN.out; omega), List.getElem?_eq_getElem _⟩
      rcases HI.out with h | ⟨b, off, rfl, hat⟩
      · subst h; simp at hr
      obtain ⟨p0, p1⟩ := hat k r hr
      have gk : (k : Int) < n := by omega
      have gk0 : (0 : Int) ≤ k := by omega
      by_cases he : r.wi = x
      · have HF : Hid (FindB l x (.returned (.int .i64 (k : Int)))) := .inl ⟨k, rfl, by omega, hasW_of hr he⟩
        rw [he] at p0
        clear hr hat HA HI he
        go_wp2_with fail
        go_ret
        exact ⟨HF.out, rfl⟩
      · have HF : Hid (∀ (j : Nat) r, j < k + 1 → l[j]? = some r → r.wi ≠ x) := by
          intro j q hj hjx
          by_cases e : j = k
          · subst e; rw [hr] at hjx; obtain rfl := Option.some.inj hjx; exact he
          · exact HA.out j q (by omega) hjx
        have he2 : (r.wi == x) = false := by simpa using he
        clear hr hat HA
        generalize r.wi = ri at *
        generalize r.du = rd at *
        go_wp2_with fail
        go_roundw
        case rel => exact ⟨k + 1, by omega, by go_num, HF.out, by first | trivial | rfl⟩
        case measure => simp [intOf]; omega
    · have HF : Hid (FindB l x (.returned (.int .i64 (-1)))) := .inr ⟨rfl, hasW_no fun j r hr => HA.out j r (by have := (List.getElem?_eq_some_iff.1 hr).1; have := HN.out; omega) hr⟩
      clear HA HI HN
      go_wp2_with fail
      go_ret
      exact ⟨HF.out, rfl⟩
end Go.Proofs.Ytmgidcigihpbeaa
