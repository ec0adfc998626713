/-
  A new list, marked; held.
-/
import Derived.Test.YtdfikpadanmgmaaWtOwn
namespace Go.Proofs.Ytdfikpadanmgmaa
open Go.ChangeShapes Go.WideShapes Go.ChangeAt Go.RowKit Go.Sort
/-- l, marked from k on. -/
def mkdWt : Nat → List Wt → List Wt
  | _, [] => []
  | k, _ :: l => ⟨(k : Int), (k : Int) + 1⟩ :: mkdWt (k + 2) l
theorem mkdWt_len : ∀ (l : List Wt) (k : Nat), (mkdWt k l).length = l.length
  | [], _ => rfl
  | _ :: l, k => by rw [mkdWt, List.length_cons, mkdWt_len l, List.length_cons]
theorem mkdWt_at : ∀ (l : List Wt) (k i : Nat), i < l.length → (mkdWt k l)[i]? = some ⟨((k + i * 2 : Nat) : Int), ((k + i * 2 : Nat) : Int) + 1⟩
  | [], _, _, h => by simp at h
  | x :: l, k, 0, _ => by simp [mkdWt]
  | x :: l, k, i + 1, h => by
    rw [mkdWt, List.getElem?_cons_succ, mkdWt_at l (k + 2) i (by simpa using h), show k + 2 + i * 2 = k + (i + 1) * 2 by omega]
theorem mkdWt_append : ∀ (A B : List Wt) (k : Nat), mkdWt k (A ++ B) = mkdWt k A ++ mkdWt (k + A.length * 2) B
  | [], B, k => by simp [mkdWt]
  | x :: A, B, k => by rw [List.cons_append, mkdWt, mkdWt, List.cons_append, mkdWt_append A B (k + 2), List.length_cons, show k + 2 + A.length * 2 = k + (A.length + 1) * 2 by omega]
/-- The first i of l are marked from k on. -/
theorem WtAt.mark1 {w : World} {g off k i : Nat} {l : List Wt} (h : WtAt w g off (mkdWt k (l.take i) ++ l.drop i)) (hi : i < l.length) :
    WtAt (((w.setCell ⟨g, off + i * 2, none⟩ (.int .i64 (((k + i * 2 : Nat) : Int)))).setCell ⟨g, off + i * 2 + 1, none⟩ (.int .i64 (((k + i * 2 : Nat) : Int) + 1)))) g off (mkdWt k (l.take (i + 1)) ++ l.drop (i + 1)) := by
  have len : (mkdWt k (l.take i) ++ l.drop i).length = l.length := by rw [List.length_append, mkdWt_len, ← List.length_append, List.take_append_drop]
  have lti : (l.take i).length = i := by rw [List.length_take]; omega
  have key : ∀ (q : Nat) r, (mkdWt k (l.take (i + 1)) ++ l.drop (i + 1))[q]? = some r → q = i ∧ r = ⟨((k + i * 2 : Nat) : Int), ((k + i * 2 : Nat) : Int) + 1⟩ ∨ q ≠ i ∧ (mkdWt k (l.take i) ++ l.drop i)[q]? = some r := by
    intro q r hr
    have e1 : l.take (i + 1) = l.take i ++ [l[i]] := List.take_succ_eq_append_getElem hi
    rw [e1, mkdWt_append, lti, List.append_assoc] at hr
    rw [List.drop_eq_getElem_cons hi]
    by_cases h1 : q < i
    · refine .inr ⟨by omega, ?_⟩
      rw [List.getElem?_append_left (by rw [mkdWt_len, lti]; exact h1)] at hr ⊢
      exact hr
    · rw [List.getElem?_append_right (by rw [mkdWt_len, lti]; omega), mkdWt_len, lti] at hr
      by_cases h2 : q = i
      · subst h2
        left
        rw [Nat.sub_self] at hr
        simp only [mkdWt, List.singleton_append, List.getElem?_cons_zero, Option.some.injEq] at hr
        exact ⟨rfl, hr.symm⟩
      · right
        refine ⟨h2, ?_⟩
        rw [List.getElem?_append_right (by rw [mkdWt_len, lti]; omega), mkdWt_len, lti]
        obtain ⟨d, hd⟩ : ∃ d, q - i = d + 1 := ⟨q - i - 1, by omega⟩
        rw [hd] at hr ⊢
        simp [mkdWt] at hr ⊢
        rw [show i + (d + 1) = i + 1 + d by omega]
        exact hr
  have there : ∀ j, j < 2 → ∃ u, w.cell? ⟨g, off + i * 2 + j, none⟩ = some u := by
    intro j hj
    obtain ⟨r, hr⟩ : ∃ r, (mkdWt k (l.take i) ++ l.drop i)[i]? = some r := ⟨_, List.getElem?_eq_getElem (by rw [len]; exact hi)⟩
    obtain ⟨p0, p1⟩ := h i r hr
    match j, hj with
    | 0, _ => exact ⟨_, p0⟩
    | 1, _ => exact ⟨_, p1⟩
  intro q r hr
  rcases key q r hr with ⟨rfl, rfl⟩ | ⟨hq, hr2⟩
  · obtain ⟨u0, g0⟩ : ∃ u, (w).cell? ⟨g, off + q * 2, none⟩ = some u := by
      obtain ⟨u, hu⟩ := there 0 (by omega)
      exact ⟨u, by simpa using hu⟩
    obtain ⟨u1, g1⟩ : ∃ u, ((w.setCell ⟨g, off + q * 2, none⟩ (.int .i64 (((k + q * 2 : Nat) : Int))))).cell? ⟨g, off + q * 2 + 1, none⟩ = some u := by
      obtain ⟨u, hu⟩ := there 1 (by omega)
      refine ⟨u, ?_⟩
      rw [World.cell?_setCell_other _ _ _ _ (offWt_ne (by omega))]
      exact hu
    exact ⟨by rw [World.cell?_setCell_other _ _ _ _ (offWt_ne (by omega))]; exact World.cell?_setCell_same _ _ _ g0, by exact World.cell?_setCell_same _ _ _ g1⟩
  · obtain ⟨p0, p1⟩ := h q r hr2
    exact ⟨by rw [World.cell?_setCell_other _ _ _ _ (offWt_ne (by omega)), World.cell?_setCell_other _ _ _ _ (offWt_ne (by omega))]; exact p0, by rw [World.cell?_setCell_other _ _ _ _ (offWt_ne (by omega)), World.cell?_setCell_other _ _ _ _ (offWt_ne (by omega))]; exact p1⟩
set_option maxHeartbeats 4000000 in
theorem markWt_any (w : World) (a : Option Addr) (cap c0 : Nat) (hc0 : c0 ≤ 10000000000000) (l : List Wt) (hl : l.length ≤ 1048576) (g off : Nat) (h : l = [] ∨ a = some ⟨g, off, none⟩ ∧ WtAt w g off l ∧ ∀ o, o < off + l.length * 2 → w.frozen? ⟨g, o, none⟩ = false) :
    Calls Try.prog 81 #[.slice a l.length cap, .int .i64 (c0 : Int)] w fun e w' => e = .returned (.int .i64 ((c0 + l.length * 2 : Nat) : Int)) ∧ (l = [] ∨ WtAt w' g off (mkdWt c0 l)) ∧ OneB g w w' := by
  rcases h with rfl | ⟨rfl, hat, hfr⟩
  · go_enter Try.func81, Try.ntmps81
    go_wp2_with fail
    go_loopw [1, 5] (fun x i wr => i = .int .i64 0 ∧ x = .int .i64 (c0 : Int) ∧ wr = w) (fun _ _ _ => 0)
    case atStart => exact ⟨rfl, rfl, rfl⟩
    case round =>
      obtain ⟨rfl, rfl, rfl⟩ := hrel
      go_wp2_with fail
      go_ret
      exact ⟨by simp, .inl (by first | trivial | rfl), OneB.refl _ _⟩
  have HST : Hid (WtAt w g off l ∧ ∀ o, o < off + l.length * 2 → w.frozen? ⟨g, o, none⟩ = false) := ⟨hat, hfr⟩
  obtain ⟨n, hn⟩ : ∃ n, l.length = n := ⟨_, rfl⟩
  rw [hn] at hl HST ⊢
  have HN : Hid (l.length = n) := hn
  clear hn hat hfr
  go_enter Try.func81, Try.ntmps81
  go_wp2_with fail
  go_loopw [1, 5] (fun x y wr => ∃ i : Nat, i ≤ n ∧ y = .int .i64 (i : Int) ∧ x = .int .i64 ((c0 + i * 2 : Nat) : Int) ∧ WtAt wr g off (mkdWt c0 (l.take i) ++ l.drop i) ∧ OneB g w wr ∧ ∀ o, o < off + n * 2 → wr.frozen? ⟨g, o, none⟩ = false) (fun _ y _ => n - (intOf y).toNat)
  case atStart => exact ⟨0, Nat.zero_le _, rfl, by simp, by simpa [mkdWt] using HST.out.1, OneB.refl _ _, HST.out.2⟩
  case round =>
    obtain ⟨i, hi, rfl, rfl, hat, hone, hfr⟩ := hrel
    clear HST
    by_cases hlt : i < n
    · obtain ⟨r, hr⟩ : ∃ r, (mkdWt c0 (l.take i) ++ l.drop i)[i]? = some r := ⟨_, List.getElem?_eq_getElem (by rw [List.length_append, mkdWt_len, ← List.length_append, List.take_append_drop, HN.out]; exact hlt)⟩
      obtain ⟨p0, p1⟩ := hat i r hr
      have HA := hat.mark1 (by rw [HN.out]; exact hlt)
      obtain ⟨c, hc⟩ : ∃ c, c0 + i * 2 = c := ⟨_, rfl⟩
      have hcb : c ≤ 10000003145728 := by omega
      rw [hc] at HA ⊢
      have HA2 : Hid (WtAt (((wr.setCell ⟨g, off + i * 2, none⟩ (.int .i64 ((c : Int)))).setCell ⟨g, off + i * 2 + 1, none⟩ (.int .i64 ((c : Int) + 1)))) g off (mkdWt c0 (l.take (i + 1)) ++ l.drop (i + 1))) := HA
      have HO : Hid (OneB g w wr) := hone
      have HC : Hid (c0 + (i + 1) * 2 = c + 2) := by show _ = _; omega
      have gk : (i : Int) < n := by omega
      have gk0 : (0 : Int) ≤ i := by omega
      have f0 := hfr (off + i * 2) (by omega)
      have f1 := hfr (off + i * 2 + 1) (by omega)
      have w0 : IntKind.i64.wrap ((c : Int) + 1) = (c : Int) + 1 := by rw [IntKind.wrap_i64]; omega
      have w1 : IntKind.i64.wrap ((c : Int) + 1 + 1) = (c : Int) + 1 + 1 := by rw [IntKind.wrap_i64]; omega
      have HFR : Hid (∀ o, o < off + n * 2 → wr.frozen? ⟨g, o, none⟩ = false) := hfr
      clear hat hr HA hone hc hfr
      go_wp2_with fail
      go_roundw
      case rel => exact ⟨i + 1, by omega, by go_num, by rw [HC.out]; go_num, HA2.out, (HO.out.trans (OneB.set _ _ _ _)).trans (OneB.set _ _ _ _), fun o ho => by rw [World.frozen?_setCell]; rw [World.frozen?_setCell]; exact HFR.out o ho⟩
      case measure => simp [intOf]; omega
    · have HF : Hid (WtAt wr g off (mkdWt c0 l)) := by
        have e : l.take i = l := List.take_of_length_le (by have := HN.out; omega)
        have e2 : l.drop i = [] := List.drop_of_length_le (by have := HN.out; omega)
        rw [e, e2, List.append_nil] at hat
        exact hat
      have ei : i = n := by omega
      subst ei
      have HO : Hid (OneB g w wr) := hone
      clear hat hone hfr HN
      go_wp2_with fail
      go_ret
      exact ⟨rfl, .inr HF.out, HO.out⟩
set_option maxHeartbeats 4000000 in
theorem heldWt_any (w : World) (a : Option Addr) (cap c0 : Nat) (hc0 : c0 ≤ 10000000000000) (l : List Wt) (hl : l.length ≤ 1048576) (h : WtIn w a (mkdWt c0 l)) :
    Calls Try.prog 120 #[.slice a l.length cap, .int .i64 (c0 : Int)] w fun e w' => e = .returned (.int .i64 ((c0 + l.length * 2 : Nat) : Int)) ∧ w' = w := by
  have HST : Hid (WtIn w a (mkdWt c0 l)) := h
  have HML : Hid (∀ i, i < l.length → (mkdWt c0 l)[i]? = some ⟨((c0 + i * 2 : Nat) : Int), ((c0 + i * 2 : Nat) : Int) + 1⟩) := fun i hi => mkdWt_at l c0 i hi
  obtain ⟨n, hn⟩ : ∃ n, l.length = n := ⟨_, rfl⟩
  rw [hn] at hl HML ⊢
  clear hn h
  go_enter Try.func120, Try.ntmps120
  go_wp2_with fail
  go_loopw [1, 5] (fun x y wr => ∃ i : Nat, i ≤ n ∧ y = .int .i64 (i : Int) ∧ x = .int .i64 ((c0 + i * 2 : Nat) : Int) ∧ wr = w) (fun _ y _ => n - (intOf y).toNat)
  case atStart => exact ⟨0, Nat.zero_le _, rfl, by simp, rfl⟩
  case round =>
    obtain ⟨i, hi, rfl, rfl, rfl⟩ := hrel
    by_cases hlt : i < n
    · have hr := HML.out i hlt
      rcases HST.out with h | ⟨b, off, rfl, hat⟩
      · rw [h] at hr; simp at hr
      obtain ⟨p0, p1⟩ := hat i _ hr
      simp only at p0 p1
      obtain ⟨c, hc⟩ : ∃ c, c0 + i * 2 = c := ⟨_, rfl⟩
      have hcb : c ≤ 10000003145728 := by omega
      rw [hc] at p0 p1 ⊢
      have HC : Hid (c0 + (i + 1) * 2 = c + 2) := by show _ = _; omega
      have gk : (i : Int) < n := by omega
      have gk0 : (0 : Int) ≤ i := by omega
      have w0 : IntKind.i64.wrap ((c : Int) + 1) = (c : Int) + 1 := by rw [IntKind.wrap_i64]; omega
      have w1 : IntKind.i64.wrap ((c : Int) + 1 + 1) = (c : Int) + 1 + 1 := by rw [IntKind.wrap_i64]; omega
      clear hr hat hc
      go_wp2_with fail
      go_roundw
      case rel => exact ⟨i + 1, by omega, by go_num, by rw [HC.out]; go_num, by first | trivial | rfl⟩
      case measure => simp [intOf]; omega
    · have ei : i = n := by omega
      subst ei
      clear HST HML
      go_wp2_with fail
      go_ret
      exact ⟨rfl, rfl⟩
end Go.Proofs.Ytdfikpadanmgmaa
