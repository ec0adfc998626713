/-
  The program's small functions over those who wait.
-/
import Derived.Test.YtmgidcigihpbeaaBlkPlain
import Derived.WalkSmall
import Derived.Shelf.Abstract
import Derived.Deep.RegionHeld3
namespace Go.Proofs.Ytmgidcigihpbeaa
open Go.ChangeShapes Go.WideShapes Go.ChangeAt Go.RowKit Go.Sort
/-- A function value tells of those who wait whether they are meant, whatever world follows w. -/
structure PredW (w : World) (g : Nat) (lb : Array Value) (p : Wt → Bool) : Prop where
  eg : ∀ args X, (callFunc g args).run Try.prog X = .ok (.enter g args) X
  call : ∀ X, Below w.heap.size w X → ∀ r : Wt, Calls Try.prog g (#[.agg #[.int .i64 r.wi, .int .i64 r.du]] ++ lb) X fun e X' => e = .returned (.bool (p r)) ∧ Below X.heap.size X X'
theorem PredW.later {w w' : World} {g : Nat} {lb : Array Value} {p : Wt → Bool} (h : PredW w g lb p) (hb : Below w.heap.size w w') : PredW w' g lb p := ⟨h.eg, fun X hX => h.call X (hb.trans (hX.mono hb.size))⟩
def IdxW (p : Wt → Bool) (l : List Wt) (e : Ending) : Prop := (∃ k : Nat, e = .returned (.int .i64 (k : Int)) ∧ k ≤ 1048576 ∧ l.any p = true) ∨ (e = .returned (.int .i64 (-1)) ∧ l.any p = false)
theorem anyW_of {p : Wt → Bool} {l : List Wt} {k : Nat} {r : Wt} (hr : l[k]? = some r) (h : p r = true) : l.any p = true := List.any_eq_true.2 ⟨r, List.mem_of_getElem? hr, h⟩
theorem anyW_no {p : Wt → Bool} {l : List Wt} (h : ∀ (j : Nat) x, l[j]? = some x → p x = false) : l.any p = false := by
  rw [List.any_eq_false]
  intro x hx
  obtain ⟨i, hi⟩ := List.getElem?_of_mem hx
  rw [h i x hi]; decide
set_option maxRecDepth 100000 in
set_option maxHeartbeats 4000000 in
theorem indexWt_any (w : World) (g : Nat) (lb : Array Value) (p : Wt → Bool) (a : Option Addr) (cap : Nat) (l : List Wt) (hl : l.length ≤ 1048576) (hi : WtIn w a l) (PH : PredW w g lb p) :
    Calls Try.prog 93 #[.slice a l.length cap, .func (.func g) #[] lb] w fun e w' => IdxW p l e ∧ Below w.heap.size w w' := by
  have HI : Hid (WtIn w a l) := hi
  have HP : Hid (∀ X, Below w.heap.size w X → ∀ r : Wt, Calls Try.prog g (#[.agg #[.int .i64 r.wi, .int .i64 r.du]] ++ lb) X fun e X' => e = .returned (.bool (p r)) ∧ Below X.heap.size X X') := PH.call
  have eg := PH.eg
  clear hi PH
  obtain ⟨n, hn⟩ : ∃ n, l.length = n := ⟨_, rfl⟩
  rw [hn] at hl ⊢
  have HN : Hid (l.length = n) := hn
  clear hn
  go_enter Try.func93, Try.ntmps93
  go_wp2_with fail
  go_loopw [8] (fun i wr => ∃ k : Nat, k ≤ n ∧ i = .int .i64 k ∧ (∀ (j : Nat) x, j < k → l[j]? = some x → p x = false) ∧ Below w.heap.size w wr) (fun i _ => n - (intOf i).toNat)
  case atStart => exact ⟨0, Nat.zero_le _, rfl, fun j x h => by omega, Below.refl _ _⟩
  case round =>
    obtain ⟨k, hk, rfl, hA, hb⟩ := hrel
    have HA : Hid (∀ (j : Nat) x, j < k → l[j]? = some x → p x = false) := hA
    clear hA
    by_cases hlt : k < n
    · obtain ⟨r, hr⟩ : ∃ r, l[k]? = some r := ⟨l[k]'(by have := HN.out; omega), List.getElem?_eq_getElem _⟩
      rcases (HI.out.keep hb) with h | ⟨b, off, rfl, hat⟩
      · subst h; simp at hr
      obtain ⟨p0, p1⟩ := hat k r hr
      have CP := HP.out wr hb r
      have gk : (k : Int) < n := by omega
      have gk0 : (0 : Int) ≤ k := by omega
      have HB : Hid (Below w.heap.size w wr) := hb
      cases he : p r
      · rw [he] at CP
        have HF : Hid (∀ (j : Nat) x, j < k + 1 → l[j]? = some x → p x = false) := by
          intro j x hj hjx
          by_cases e : j = k
          · subst e; rw [hr] at hjx; obtain rfl := Option.some.inj hjx; exact he
          · exact HA.out j x (by omega) hjx
        clear hr hat hb HA HI he HP
        generalize r.wi = rt at *
        generalize r.du = rg at *
        go_wp2_with (go_at_fn g; refine CP.mono ?_; rintro e w2 ⟨rfl, hb2⟩)
        go_roundw
        case rel => exact ⟨k + 1, by omega, by go_num, HF.out, HB.out.trans (hb2.mono HB.out.size)⟩
        case measure => simp [intOf]; omega
      · rw [he] at CP
        have HF : Hid (IdxW p l (.returned (.int .i64 (k : Int)))) := .inl ⟨k, rfl, by omega, anyW_of hr he⟩
        clear hr hat hb HA HI he HP
        generalize r.wi = rt at *
        generalize r.du = rg at *
        go_wp2_with (go_at_fn g; refine CP.mono ?_; rintro e w2 ⟨rfl, hb2⟩)
        go_ret
        exact ⟨HF.out, HB.out.trans (hb2.mono HB.out.size)⟩
    · have HF : Hid (IdxW p l (.returned (.int .i64 (-1)))) := .inr ⟨rfl, anyW_no fun j x hx => HA.out j x (by have := (List.getElem?_eq_some_iff.1 hx).1; have := HN.out; omega) hx⟩
      have HB : Hid (Below w.heap.size w wr) := hb
      clear HA hb HP HN HI
      go_wp2_with fail
      go_ret
      exact ⟨HF.out, HB.out⟩
set_option maxHeartbeats 400000 in
theorem containsWt_any (w : World) (g : Nat) (lb : Array Value) (p : Wt → Bool) (a : Option Addr) (cap : Nat) (l : List Wt) (hl : l.length ≤ 1048576) (hi : WtIn w a l) (PH : PredW w g lb p) :
    Calls Try.prog 81 #[.slice a l.length cap, .func (.func g) #[] lb] w fun e w' => e = .returned (.bool (l.any p)) ∧ Below w.heap.size w w' := by
  have HC : Hid (Calls Try.prog 93 #[.slice a l.length cap, .func (.func g) #[] lb] w fun e w' => IdxW p l e ∧ Below w.heap.size w w') := indexWt_any w g lb p a cap l hl hi PH
  clear hi PH
  generalize l.length = n at *
  go_enter Try.func81, Try.ntmps81
  go_wp2_with fail
  refine HC.out.mono ?_
  rintro e w1 ⟨hI, hb⟩
  clear HC
  rcases hI with ⟨k, rfl, _, h⟩ | ⟨rfl, h⟩
  · have HH : Hid (l.any p = true) := h
    clear h
    go_wp2_with fail
    go_ret
    exact ⟨by rw [HH.out]; rfl, hb⟩
  · have HH : Hid (l.any p = false) := h
    clear h
    go_wp2_with fail
    go_ret
    exact ⟨by rw [HH.out]; rfl, hb⟩
theorem waitOf_any (w : World) (K : Nat) (x : Int) (hK : K < w.heap.size) (hc : w.cell? ⟨K, 0, none⟩ = some (.int .i64 x)) : PredW w 94 #[.pointer (some ⟨K, 0, none⟩)] (fun r => decide (r.wi = x)) := by
  refine ⟨enters_of Try.func94 (by kernel_rfl) rfl, fun X hX r => ?_⟩
  have c0 : X.cell? ⟨K, 0, none⟩ = some (.int .i64 x) := by rw [hX.cell (p := ⟨K, 0, none⟩) hK]; exact hc
  have hKX : K < X.heap.size := Nat.lt_of_lt_of_le hK hX.size
  clear hX hc hK
  obtain ⟨rt, rg⟩ := r
  simp only
  show Calls Try.prog 94 #[.agg #[.int .i64 rt, .int .i64 rg], .pointer (some ⟨K, 0, none⟩)] X _
  by_cases c : rt = x
  · have e : decide (rt = x) = true := by simpa using c
    rw [e]
    subst c
    go_enter Try.func94, Try.ntmps94
    go_wp2
    go_ret
    exact ⟨rfl, (Below.refl _ _).alloc (Nat.le_refl _) _⟩
  · have e : decide (rt = x) = false := by simpa using c
    have e2 : (rt == x) = false := by simpa using c
    rw [e]
    go_enter Try.func94, Try.ntmps94
    go_wp2
    go_ret
    exact ⟨rfl, (Below.refl _ _).alloc (Nat.le_refl _) _⟩
theorem isWaitOf_any (x : Int) (w : World) : Calls Try.prog 82 #[.int .i64 x] w fun e w' => e = .returned (.func (.func 94) #[] #[.pointer (some ⟨w.heap.size, 0, none⟩)]) ∧ w' = w.alloc (.cells #[.int .i64 x] 2) := by
  go_enter Try.func82, Try.ntmps82
  go_wp2
  go_ret
  exact ⟨rfl, rfl⟩
set_option maxHeartbeats 1000000 in
theorem isWaiting_any (w : World) (a : Option Addr) (cap : Nat) (l : List Wt) (x : Int) (hl : l.length ≤ 1048576) (hi : WtIn w a l) :
    Calls Try.prog 42 #[.slice a l.length cap, .int .i64 x] w fun e w' => e = .returned (.bool (hasW l x)) ∧ Below w.heap.size w w' := by
  have HO : Hid (∀ w, Calls Try.prog 82 #[.int .i64 x] w fun e w' => e = .returned (.func (.func 94) #[] #[.pointer (some ⟨w.heap.size, 0, none⟩)]) ∧ w' = w.alloc (.cells #[.int .i64 x] 2)) := isWaitOf_any x
  have hB : Below w.heap.size w (w.alloc (.cells #[.int .i64 x] 2)) := (Below.refl _ _).alloc (Nat.le_refl _) _
  have HC : Hid (Calls Try.prog 81 #[.slice a l.length cap, .func (.func 94) #[] #[.pointer (some ⟨w.heap.size, 0, none⟩)]] (w.alloc (.cells #[.int .i64 x] 2)) fun e w' => e = .returned (.bool (hasW l x)) ∧ Below w.heap.size w w') := (containsWt_any _ _ _ _ a cap l hl (hi.keep hB) (waitOf_any _ w.heap.size x (by simp) (by simp))).mono fun e w' ⟨h1, h2⟩ => ⟨h1, hB.trans (h2.mono hB.size)⟩
  clear hi hB hl
  generalize hasW l x = b at *
  generalize l.length = n at *
  go_enter Try.func42, Try.ntmps42
  go_wp2_with fail
  refine (HO.out _).mono ?_
  rintro e w1 ⟨rfl, rfl⟩
  go_wp2_with fail
  refine HC.out.mono ?_
  rintro e w2 ⟨rfl, hb⟩
  go_wp2_with fail
  go_ret
  exact ⟨rfl, hb⟩
set_option maxHeartbeats 1000000 in
theorem isWait_any (r : Wt) (w : World) : Calls Try.prog 50 #[.agg #[.int .i64 r.wi, .int .i64 r.du]] w fun e w' => e = .returned (.bool (waitB r)) ∧ Below w.heap.size w w' := by
  have HT : Hid (∀ x lo hi w, Calls Try.prog 40 #[.int .i64 x, .int .i64 lo, .int .i64 hi] w fun r w' => r = .returned (.bool (inW lo hi x)) ∧ w' = w) := isWithin_all
  have HU : Hid (∀ x w, Calls Try.prog 41 #[.int .i64 x] w fun r w' => r = .returned (.bool (timeB x)) ∧ w' = w) := isTime_all
  have HB : Hid (Below w.heap.size w (w.alloc (.cells #[.int .i64 r.wi, .int .i64 r.du] 40))) := (Below.refl _ _).alloc (Nat.le_refl _) _
  have hwb : waitB r = (inW 0 1000000000000000 r.wi && timeB r.du) := rfl
  generalize waitB r = wb at *
  generalize r.wi = ri at *
  generalize r.du = rd at *
  cases h1 : inW 0 1000000000000000 ri
  · rw [h1] at hwb
    simp only [Bool.false_and] at hwb
    subst hwb
    go_enter Try.func50, Try.ntmps50
    go_wp2_with fail
    refine (HT.out _ _ _ _).mono ?_
    rintro e w1 ⟨rfl, rfl⟩
    rw [h1]
    go_wp2_with fail
    go_ret
    exact ⟨rfl, HB.out⟩
  · rw [h1] at hwb
    simp only [Bool.true_and] at hwb
    go_enter Try.func50, Try.ntmps50
    go_wp2_with fail
    refine (HT.out _ _ _ _).mono ?_
    rintro e w1 ⟨rfl, rfl⟩
    rw [h1]
    go_wp2_with fail
    refine (HU.out _ _).mono ?_
    rintro e w1 ⟨rfl, rfl⟩
    rw [← hwb]
    clear hwb
    go_wp2_with fail
    go_ret
    exact ⟨rfl, HB.out⟩
theorem WtIn.take {w : World} {a : Option Addr} {l : List Wt} (h : WtIn w a l) (k : Nat) : WtIn w a (l.take k) := by
  rcases h with rfl | ⟨b, off, e, h⟩
  · exact .inl (by simp)
  · refine .inr ⟨b, off, e, fun i r hr => h i r ?_⟩
    rw [List.getElem?_take] at hr
    split at hr
    · exact hr
    · cases hr
end Go.Proofs.Ytmgidcigihpbeaa
