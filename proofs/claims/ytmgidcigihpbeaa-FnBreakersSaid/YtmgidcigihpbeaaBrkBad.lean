/-
  Bad outcomes, counted; BadIn, on both sides.
-/
import Derived.Test.YtmgidcigihpbeaaBrkImpl
namespace Go.Proofs.Ytmgidcigihpbeaa
open Go.ChangeShapes Go.WideShapes Go.ChangeAt Go.RowKit Go.Sort
set_option maxRecDepth 100000 in
set_option maxHeartbeats 4000000 in
theorem specBad_any (w : World) (a : Option Addr) (cap : Nat) (l : List Mk) (hl : l.length ≤ 1048576) (hi : MkIn w a l) :
    Calls Try.prog 76 #[.slice a l.length cap] w fun e w' => e = .returned (.int .i64 (badM l : Int)) ∧ Below w.heap.size w w' := by
  have HI : Hid (MkIn w a l) := hi
  clear hi
  obtain ⟨n, hn⟩ : ∃ n, l.length = n := ⟨_, rfl⟩
  rw [hn] at hl ⊢
  have HN : Hid (l.length = n) := hn
  clear hn
  go_enter Try.func76, Try.ntmps76
  go_wp2_with fail
  go_loopw [3, 4] (fun v i wr => ∃ k m : Nat, k ≤ n ∧ i = .int .i64 k ∧ v = .int .i64 m ∧ m ≤ k ∧ m = badM (l.take k) ∧ Below w.heap.size w wr) (fun _ i _ => n - (intOf i).toNat)
  case atStart => exact ⟨0, 0, Nat.zero_le _, rfl, rfl, Nat.le_refl _, rfl, Below.refl _ _⟩
  case round =>
    obtain ⟨k, m, hk, rfl, rfl, hmk, hm, hb⟩ := hrel
    have HM : Hid (m = badM (l.take k)) := hm
    clear hm
    by_cases hlt : k < n
    · obtain ⟨r, hr⟩ : ∃ r, l[k]? = some r := ⟨l[k]'(by have := HN.out; omega), List.getElem?_eq_getElem _⟩
      rcases (HI.out.keep hb) with h | ⟨b, off, rfl, hat⟩
      · subst h; simp at hr
      obtain ⟨p0, p1⟩ := hat k r hr
      have HF : Hid (badM (l.take (k + 1)) = m + if r.gd = true then 0 else 1) := by show _ = _; rw [badM_take hr, HM.out]
      have gk : (k : Int) < n := by omega
      have HB : Hid (Below w.heap.size w wr) := hb
      clear hr hat hb HM HI
      generalize r.tm = rt at *
      generalize r.gd = rg at *
      cases rg
      · have HF2 : Hid (m + 1 = badM (l.take (k + 1))) := by show _ = _; rw [HF.out]; rfl
        clear HF
        go_wp2_with fail
        go_roundw
        case rel => exact ⟨k + 1, m + 1, by omega, by go_num, by go_num, by omega, HF2.out, HB.out⟩
        case measure => simp [intOf]; omega
      · have HF2 : Hid (m = badM (l.take (k + 1))) := by show _ = _; rw [HF.out]; rfl
        clear HF
        go_wp2_with fail
        go_roundw
        case rel => exact ⟨k + 1, m, by omega, by go_num, rfl, by omega, HF2.out, HB.out⟩
        case measure => simp [intOf]; omega
    · have HE : Hid ((badM l : Int) = (m : Int)) := by
        have e : l.take k = l := List.take_of_length_le (by have := HN.out; omega)
        show _ = _
        rw [HM.out, e]
      clear HM HN HI
      go_wp2_with fail
      go_ret
      exact ⟨ret_int HE.out.symm, hb⟩
set_option maxRecDepth 100000 in
set_option maxHeartbeats 4000000 in
theorem implBad_any (w : World) (a : Option Addr) (cap : Nat) (l : List Mk) (hl : l.length ≤ 1048576) (hi : MkIn w a l) :
    Calls Try.prog 75 #[.slice a l.length cap] w fun e w' => e = .returned (.int .i64 (badM l : Int)) ∧ Below w.heap.size w w' := by
  have HI : Hid (MkIn w a l) := hi
  clear hi
  obtain ⟨n, hn⟩ : ∃ n, l.length = n := ⟨_, rfl⟩
  rw [hn] at hl ⊢
  have HN : Hid (l.length = n) := hn
  clear hn
  go_enter Try.func75, Try.ntmps75
  go_wp2_with fail
  go_loopw [3, 8] (fun v i wr => ∃ k m : Nat, k ≤ n ∧ i = .int .i64 k ∧ v = .int .i64 m ∧ m ≤ k ∧ m = badM (l.take k) ∧ Below w.heap.size w wr) (fun _ i _ => n - (intOf i).toNat)
  case atStart => exact ⟨0, 0, Nat.zero_le _, rfl, rfl, Nat.le_refl _, rfl, Below.refl _ _⟩
  case round =>
    obtain ⟨k, m, hk, rfl, rfl, hmk, hm, hb⟩ := hrel
    have HM : Hid (m = badM (l.take k)) := hm
    clear hm
    by_cases hlt : k < n
    · obtain ⟨r, hr⟩ : ∃ r, l[k]? = some r := ⟨l[k]'(by have := HN.out; omega), List.getElem?_eq_getElem _⟩
      rcases (HI.out.keep hb) with h | ⟨b, off, rfl, hat⟩
      · subst h; simp at hr
      obtain ⟨p0, p1⟩ := hat k r hr
      have HF : Hid (badM (l.take (k + 1)) = m + if r.gd = true then 0 else 1) := by show _ = _; rw [badM_take hr, HM.out]
      have gk : (k : Int) < n := by omega
      have HB : Hid (Below w.heap.size w wr) := hb
      clear hr hat hb HM HI
      generalize r.tm = rt at *
      generalize r.gd = rg at *
      cases rg
      · have HF2 : Hid (m + 1 = badM (l.take (k + 1))) := by show _ = _; rw [HF.out]; rfl
        clear HF
        go_wp2_with fail
        go_roundw
        case rel => exact ⟨k + 1, m + 1, by omega, by go_num, by go_num, by omega, HF2.out, HB.out.trans (((Below.refl _ _).alloc (Nat.le_refl _) _).mono HB.out.size)⟩
        case measure => simp [intOf]; omega
      · have HF2 : Hid (m = badM (l.take (k + 1))) := by show _ = _; rw [HF.out]; rfl
        clear HF
        go_wp2_with fail
        go_roundw
        case rel => exact ⟨k + 1, m, by omega, by go_num, rfl, by omega, HF2.out, HB.out.trans (((Below.refl _ _).alloc (Nat.le_refl _) _).mono HB.out.size)⟩
        case measure => simp [intOf]; omega
    · have HE : Hid ((badM l : Int) = (m : Int)) := by
        have e : l.take k = l := List.take_of_length_le (by have := HN.out; omega)
        show _ = _
        rw [HM.out, e]
      clear HM HN HI
      go_wp2_with fail
      go_ret
      exact ⟨ret_int HE.out.symm, hb⟩
def badA (s t o : Int) (l : List Mk) : Int := if brkC s t o l = 0 then (badM l : Int) else 0
set_option maxHeartbeats 4000000 in
theorem specBadIn_any (s t o : Int) (a : Option Addr) (cap : Nat) (l : List Mk) (hl : l.length ≤ 1048576) (w : World) (hi : MkIn w a l) :
    Calls Try.prog 36 #[.agg #[.int .i64 s, .int .i64 t, .int .i64 o, .slice a l.length cap]] w fun r w' => r = .returned (.agg #[.int .i64 (brkC s t o l), .int .i64 (badA s t o l)]) ∧ Below w.heap.size w w' := by
  have HK : Hid (∀ W, MkIn W a l → Calls Try.prog 29 #[.agg #[.int .i64 s, .int .i64 t, .int .i64 o, .slice a l.length cap]] W fun r w' => r = .returned (.int .i64 (brkC s t o l)) ∧ Below W.heap.size W w') := fun W h => specBrk_any s t o a cap l W h
  have HD : Hid (∀ W, MkIn W a l → Calls Try.prog 76 #[.slice a l.length cap] W fun e w' => e = .returned (.int .i64 (badM l : Int)) ∧ Below W.heap.size W w') := fun W h => specBad_any W a cap l hl h
  have HI : Hid (MkIn w a l) := hi
  have HV0 : Hid (brkC s t o l = 0 → badA s t o l = (badM l : Int)) := fun h => by rw [badA, if_pos h]
  have HV1 : Hid (¬ brkC s t o l = 0 → badA s t o l = 0) := fun h => by rw [badA, if_neg h]
  clear hi hl
  generalize hv : badA s t o l = v at *
  generalize (badM l : Int) = m at *
  generalize hc : brkC s t o l = c at *
  generalize l.length = n at *
  clear hv hc
  have HS : Hid (S4 ((w.alloc (.cells #[.int .i64 s, .int .i64 t, .int .i64 o, .slice a n cap] 51)).alloc (.cells #[.int .i64 0, .int .i64 0] 67)) w.heap.size (.int .i64 s) (.int .i64 t) (.int .i64 o) (.slice a n cap)) := (S4.new _ _ _ _ _ _).keep ((Below.refl _ _).alloc (Nat.le_refl _) _)
  have HR : Hid (IR ((w.alloc (.cells #[.int .i64 s, .int .i64 t, .int .i64 o, .slice a n cap] 51)).alloc (.cells #[.int .i64 0, .int .i64 0] 67)) (w.heap.size + 1) (.int .i64 0) (.int .i64 0)) := by
    have := IR.new (w.alloc (.cells #[.int .i64 s, .int .i64 t, .int .i64 o, .slice a n cap] 51)) (.int .i64 0) (.int .i64 0) 67
    rwa [show (w.alloc (.cells #[.int .i64 s, .int .i64 t, .int .i64 o, .slice a n cap] 51)).heap.size = w.heap.size + 1 by simp] at this
  have HB : Hid (Below w.heap.size w ((w.alloc (.cells #[.int .i64 s, .int .i64 t, .int .i64 o, .slice a n cap] 51)).alloc (.cells #[.int .i64 0, .int .i64 0] 67))) := ((Below.refl _ _).alloc (Nat.le_refl _) _).alloc (by simp) _
  go_enter Try.func36, Try.ntmps36
  go_wp2_with fail
  refine (HK.out _ (HI.out.keep HB.out)).mono ?_
  rintro e w1 ⟨rfl, hb1⟩
  have HB1 : Hid (Below w.heap.size w w1) := HB.out.trans (hb1.mono HB.out.size)
  have HS1 : Hid (S4 w1 w.heap.size (.int .i64 s) (.int .i64 t) (.int .i64 o) (.slice a n cap)) := HS.out.keep hb1
  have HR1 : Hid (IR w1 (w.heap.size + 1) (.int .i64 0) (.int .i64 0)) := HR.out.keep hb1
  clear hb1 HB HS HR HK
  by_cases h0 : c = 0
  · subst h0
    have HE : Hid (v = m) := HV0.out (by trivial)
    obtain ⟨c0, c1, c2, c3, fr, _⟩ := HS1.out
    clear HV0 HV1
    go_wp2_with fail
    refine (HD.out _ (HI.out.keep HB1.out)).mono ?_
    rintro e w2 ⟨rfl, hb2⟩
    have HB2 : Hid (Below w.heap.size w w2) := HB1.out.trans (hb2.mono HB1.out.size)
    obtain ⟨r0, r1, rf, _⟩ := HR1.out.keep hb2
    clear hb2 HB1 HS1 HR1 HD HI c0 c1 c2 c3 fr
    go_wp2_with fail
    exact bodyPost_ret (v := .agg #[.int .i64 0, .int .i64 m]) (by simp [results, Try.results36, go_sem, r0, r1]) rfl ⟨by rw [HE.out], (HB2.out.setCell (Nat.le_succ _) _).setCell (Nat.le_succ _) _⟩
  · have HE : Hid (v = 0) := HV1.out h0
    have n0 : (c != 0) = true := by simpa using h0
    obtain ⟨r0, r1, rf, _⟩ := HR1.out
    clear HV0 HV1 HD HI HS1 HR1
    go_wp2_with fail
    exact bodyPost_ret (v := .agg #[.int .i64 c, .int .i64 0]) (by simp [results, Try.results36, go_sem, r0, r1]) rfl ⟨by rw [HE.out], (HB1.out.setCell (Nat.le_succ _) _).setCell (Nat.le_succ _) _⟩
set_option maxHeartbeats 4000000 in
theorem implBadIn_any (s t o : Int) (a : Option Addr) (cap : Nat) (l : List Mk) (hl : l.length ≤ 1048576) (w : World) (hi : MkIn w a l) :
    Calls Try.prog 35 #[.agg #[.int .i64 s, .int .i64 t, .int .i64 o, .slice a l.length cap]] w fun r w' => r = .returned (.agg #[.int .i64 (brkC s t o l), .int .i64 (badA s t o l)]) ∧ Below w.heap.size w w' := by
  have HK : Hid (∀ W, MkIn W a l → Calls Try.prog 28 #[.agg #[.int .i64 s, .int .i64 t, .int .i64 o, .slice a l.length cap]] W fun r w' => r = .returned (.int .i64 (brkC s t o l)) ∧ Below W.heap.size W w') := fun W h => implBrk_any s t o a cap l W h
  have HD : Hid (∀ W, MkIn W a l → Calls Try.prog 75 #[.slice a l.length cap] W fun e w' => e = .returned (.int .i64 (badM l : Int)) ∧ Below W.heap.size W w') := fun W h => implBad_any W a cap l hl h
  have HI : Hid (MkIn w a l) := hi
  have HV0 : Hid (brkC s t o l = 0 → badA s t o l = (badM l : Int)) := fun h => by rw [badA, if_pos h]
  have HV1 : Hid (¬ brkC s t o l = 0 → badA s t o l = 0) := fun h => by rw [badA, if_neg h]
  clear hi hl
  generalize hv : badA s t o l = v at *
  generalize (badM l : Int) = m at *
  generalize hc : brkC s t o l = c at *
  generalize l.length = n at *
  clear hv hc
  have HS : Hid (S4 ((w.alloc (.cells #[.int .i64 s, .int .i64 t, .int .i64 o, .slice a n cap] 51)).alloc (.cells #[.int .i64 0, .int .i64 0] 67)) w.heap.size (.int .i64 s) (.int .i64 t) (.int .i64 o) (.slice a n cap)) := (S4.new _ _ _ _ _ _).keep ((Below.refl _ _).alloc (Nat.le_refl _) _)
  have HR : Hid (IR ((w.alloc (.cells #[.int .i64 s, .int .i64 t, .int .i64 o, .slice a n cap] 51)).alloc (.cells #[.int .i64 0, .int .i64 0] 67)) (w.heap.size + 1) (.int .i64 0) (.int .i64 0)) := by
    have := IR.new (w.alloc (.cells #[.int .i64 s, .int .i64 t, .int .i64 o, .slice a n cap] 51)) (.int .i64 0) (.int .i64 0) 67
    rwa [show (w.alloc (.cells #[.int .i64 s, .int .i64 t, .int .i64 o, .slice a n cap] 51)).heap.size = w.heap.size + 1 by simp] at this
  have HB : Hid (Below w.heap.size w ((w.alloc (.cells #[.int .i64 s, .int .i64 t, .int .i64 o, .slice a n cap] 51)).alloc (.cells #[.int .i64 0, .int .i64 0] 67))) := ((Below.refl _ _).alloc (Nat.le_refl _) _).alloc (by simp) _
  go_enter Try.func35, Try.ntmps35
  go_wp2_with fail
  refine (HK.out _ (HI.out.keep HB.out)).mono ?_
  rintro e w1 ⟨rfl, hb1⟩
  have HB1 : Hid (Below w.heap.size w w1) := HB.out.trans (hb1.mono HB.out.size)
  have HS1 : Hid (S4 w1 w.heap.size (.int .i64 s) (.int .i64 t) (.int .i64 o) (.slice a n cap)) := HS.out.keep hb1
  have HR1 : Hid (IR w1 (w.heap.size + 1) (.int .i64 0) (.int .i64 0)) := HR.out.keep hb1
  clear hb1 HB HS HR HK
  by_cases h0 : c = 0
  · subst h0
    have HE : Hid (v = m) := HV0.out (by trivial)
    obtain ⟨c0, c1, c2, c3, fr, _⟩ := HS1.out
    clear HV0 HV1
    go_wp2_with fail
    refine (HD.out _ (HI.out.keep HB1.out)).mono ?_
    rintro e w2 ⟨rfl, hb2⟩
    have HB2 : Hid (Below w.heap.size w w2) := HB1.out.trans (hb2.mono HB1.out.size)
    obtain ⟨r0, r1, rf, _⟩ := HR1.out.keep hb2
    clear hb2 HB1 HS1 HR1 HD HI c0 c1 c2 c3 fr
    go_wp2_with fail
    exact bodyPost_ret (v := .agg #[.int .i64 0, .int .i64 m]) (by simp [results, Try.results35, go_sem, r0, r1]) rfl ⟨by rw [HE.out], (HB2.out.setCell (Nat.le_succ _) _).setCell (Nat.le_succ _) _⟩
  · have HE : Hid (v = 0) := HV1.out h0
    have n0 : (c != 0) = true := by simpa using h0
    obtain ⟨r0, r1, rf, _⟩ := HR1.out
    clear HV0 HV1 HD HI HS1 HR1
    go_wp2_with fail
    exact bodyPost_ret (v := .agg #[.int .i64 c, .int .i64 0]) (by simp [results, Try.results35, go_sem, r0, r1]) rfl ⟨by rw [HE.out], (HB1.out.setCell (Nat.le_succ _) _).setCell (Nat.le_succ _) _⟩
end Go.Proofs.Ytmgidcigihpbeaa
