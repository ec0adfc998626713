/-
  What lineFault and HeadersFault answer.
-/
import Derived.Test.YtelbddgdaibolaaDoorHFaultSpec
import Derived.Test.YtelbddgdaibolaaDoorPlainImpl
import Derived.Test.YtelbddgdaibolaaDoorWordLaid
import Derived.Test.YtelbddgdaibolaaDoorTrimImpl
import Derived.Lib.QuietBelow
import Derived.Deep.RegionWith
import Derived.BigQuiet
namespace Go.Proofs.YtelbddgdaibolaaDoor
open Go.ChangeShapes Go.WideShapes Go.ChangeAt Go.RowKit Go.Sort
theorem hdr_room {w w1 : World} {n v : ByteArray} {t : TypeId} (hb : Below (w.alloc (.cells #[.string n, .string v] t)).heap.size (w.alloc (.cells #[.string n, .string v] t)) w1) :
    w.heap.size < w1.heap.size ∧ w1.cell? ⟨w.heap.size, 0, none⟩ = some (.string n) ∧ w1.cell? ⟨w.heap.size, 1, none⟩ = some (.string v) ∧ Below w.heap.size w w1 := by
  rw [World.size_alloc] at hb
  have hz := hb.size
  simp only [World.size_alloc] at hz
  exact ⟨hz, by rw [hb.cell (p := ⟨w.heap.size, 0, none⟩) (Nat.lt_succ_self _)]; simp, by rw [hb.cell (p := ⟨w.heap.size, 1, none⟩) (Nat.lt_succ_self _)]; simp, ((Below.refl _ _).alloc (Nat.le_refl _) _).trans (hb.mono (Nat.le_succ _))⟩
theorem hkeep {W W' : World} (hb : Below W.heap.size W W') {p : Addr} {v : Value} (h : W.cell? p = some v) : W'.cell? p = some v := by
  rw [hb.cell (block_lt_of_cell h)]; exact h
set_option maxHeartbeats 2000000 in
theorem implLine_any (r : Hdr) (w : World) (hset : SetIs w) :
    Calls Tryd.prog 63 #[.agg #[.string r.name, .string r.value]] w fun e w' => e = .returned (.int .i64 (faultH r)) ∧ Below w.heap.size w w' := by
  obtain ⟨n, v⟩ := r
  simp only
  have HW : Hid (Calls Tryd.prog 75 #[.string n] (w.alloc (.cells #[.string n, .string v] 98)) fun e w' => e = .returned (.bool (wordS n)) ∧ Below (w.alloc (.cells #[.string n, .string v] 98)).heap.size (w.alloc (.cells #[.string n, .string v] 98)) w') := implIsWord_set n _ (hset.below ((Below.refl _ _).alloc (Nat.le_refl _) _))
  clear hset
  cases hw : wordS n
  · have HE : Hid (faultH ⟨n, v⟩ = 5) := by show _ = _; simp [faultH, hw]
    rw [hw] at HW
    clear hw
    go_enter Tryd.func63, Tryd.ntmps63
    go_wp2_with fail
    refine HW.out.mono ?_
    rintro e w1 ⟨rfl, hb1⟩
    obtain ⟨hz1, p0, p1, kb⟩ := hdr_room hb1
    have KB : Hid (Below w.heap.size w w1) := kb
    clear hb1 kb
    go_wp2_with fail
    go_ret
    exact ⟨ret_int HE.out.symm, KB.out⟩
  rw [hw] at HW
  by_cases hbig : 200 < v.size
  · have HE : Hid (faultH ⟨n, v⟩ = 2) := by show _ = _; simp only [faultH, hw]; rw [if_neg (by simp), if_pos hbig]
    have g : (200 : Int) < v.size := by omega
    clear hw
    go_enter Tryd.func63, Tryd.ntmps63
    go_wp2_with fail
    refine HW.out.mono ?_
    rintro e w1 ⟨rfl, hb1⟩
    obtain ⟨hz1, p0, p1, kb⟩ := hdr_room hb1
    have KB : Hid (Below w.heap.size w w1) := kb
    clear hb1 kb
    go_wp2_with fail
    go_ret
    exact ⟨ret_int HE.out.symm, KB.out⟩
  have g : ¬ (200 : Int) < v.size := by omega
  have HP : Hid (∀ w, Calls Tryd.prog 76 #[.string v] w fun e w' => e = .returned (.bool (plainL v.data.toList)) ∧ Below w.heap.size w w') := fun w => (allPlain_any v w (by omega)).mono fun _ _ ⟨h1, h2⟩ => ⟨h1, h2 ▸ Below.refl _ _⟩
  have HT : Hid (∀ w, Calls Tryd.prog 77 #[.string v, .string ⟨#[32, 9]⟩] w fun e w' => e = .returned (.string (trimT v)) ∧ Below w.heap.size w w') := fun w => trim_big v w (by omega)
  cases hp : plainL v.data.toList
  · have HE : Hid (faultH ⟨n, v⟩ = 5) := by show _ = _; simp only [faultH, hw]; rw [if_neg (by simp), if_neg hbig, if_pos hp]
    rw [hp] at HP
    clear hw hp hbig
    go_enter Tryd.func63, Tryd.ntmps63
    go_wp2_with fail
    refine HW.out.mono ?_
    rintro e w1 ⟨rfl, hb1⟩
    obtain ⟨hz1, p0, p1, kb⟩ := hdr_room hb1
    have KB : Hid (Below w.heap.size w w1) := kb
    clear hb1 kb
    go_wp2_with fail
    have q1 := cell_regrown p1
    have cP : ∀ d' os, Calls Tryd.prog 76 #[.string v] (grow (redrawn w1 d') os) fun e w'' => e = .returned (.bool false) ∧ ∃ p : Regrown, w'' = grow (redrawn w1 p.d) p.os := fun d' os => Calls.regrown_of (HP.out _)
    refine wp_region_quiet_below (by kernel_rfl) (by kernel_rfl) ?_
    repeat (go_big_quiet_step (first | (go_at_call 76; exact cP _ _)))
    refine wpQuiet_nil ?_
    intro W2 hW2
    have hbW2 : Below w1.heap.size w1 W2 := by
      obtain ⟨⟨d, os⟩, rfl⟩ := hW2
      exact below_regrown w1 d os
    have KB2 : Hid (Below w.heap.size w W2) := KB.out.trans (hbW2.mono KB.out.size)
    clear hW2 hbW2 cP q1 p0 p1 KB
    go_wp2_with fail
    go_ret
    exact ⟨ret_int HE.out.symm, KB2.out⟩
  rw [hp] at HP
  by_cases ht : trimT v = v
  · have HE : Hid (faultH ⟨n, v⟩ = 0) := by show _ = _; simp only [faultH, hw]; rw [if_neg (by simp), if_neg hbig, if_neg (by simp [hp]), if_pos ht]
    rw [ht] at HT
    clear hw hp hbig ht
    go_enter Tryd.func63, Tryd.ntmps63
    go_wp2_with fail
    refine HW.out.mono ?_
    rintro e w1 ⟨rfl, hb1⟩
    obtain ⟨hz1, p0, p1, kb⟩ := hdr_room hb1
    have KB : Hid (Below w.heap.size w w1) := kb
    clear hb1 kb
    go_wp2_with fail
    have q1 := cell_regrown p1
    have cP : ∀ d' os, Calls Tryd.prog 76 #[.string v] (grow (redrawn w1 d') os) fun e w'' => e = .returned (.bool true) ∧ ∃ p : Regrown, w'' = grow (redrawn w1 p.d) p.os := fun d' os => Calls.regrown_of (HP.out _)
    have cT : ∀ d' os, Calls Tryd.prog 77 #[.string v, .string ⟨#[32, 9]⟩] (grow (redrawn w1 d') os) fun e w'' => e = .returned (.string v) ∧ ∃ p : Regrown, w'' = grow (redrawn w1 p.d) p.os := fun d' os => Calls.regrown_of (HT.out _)
    refine wp_region_quiet_below (by kernel_rfl) (by kernel_rfl) ?_
    repeat (go_big_quiet_step (first | (go_at_call 76; exact cP _ _) | (go_at_call 77; exact cT _ _)))
    refine wpQuiet_nil ?_
    intro W2 hW2
    have hbW2 : Below w1.heap.size w1 W2 := by
      obtain ⟨⟨d, os⟩, rfl⟩ := hW2
      exact below_regrown w1 d os
    have KB2 : Hid (Below w.heap.size w W2) := KB.out.trans (hbW2.mono KB.out.size)
    clear hW2 hbW2 cP cT q1 p0 p1 KB
    go_wp2_with fail
    go_ret
    exact ⟨ret_int HE.out.symm, KB2.out⟩
  · have HE : Hid (faultH ⟨n, v⟩ = 5) := by show _ = _; simp only [faultH, hw]; rw [if_neg (by simp), if_neg hbig, if_neg (by simp [hp]), if_neg ht]
    have hq := hstr_ne ht
    generalize trimT v = t at *
    clear hw hp hbig ht
    go_enter Tryd.func63, Tryd.ntmps63
    go_wp2_with fail
    refine HW.out.mono ?_
    rintro e w1 ⟨rfl, hb1⟩
    obtain ⟨hz1, p0, p1, kb⟩ := hdr_room hb1
    have KB : Hid (Below w.heap.size w w1) := kb
    clear hb1 kb
    go_wp2_with fail
    have q1 := cell_regrown p1
    have cP : ∀ d' os, Calls Tryd.prog 76 #[.string v] (grow (redrawn w1 d') os) fun e w'' => e = .returned (.bool true) ∧ ∃ p : Regrown, w'' = grow (redrawn w1 p.d) p.os := fun d' os => Calls.regrown_of (HP.out _)
    have cT : ∀ d' os, Calls Tryd.prog 77 #[.string v, .string ⟨#[32, 9]⟩] (grow (redrawn w1 d') os) fun e w'' => e = .returned (.string t) ∧ ∃ p : Regrown, w'' = grow (redrawn w1 p.d) p.os := fun d' os => Calls.regrown_of (HT.out _)
    refine wp_region_quiet_below (by kernel_rfl) (by kernel_rfl) ?_
    repeat (go_big_quiet_step (first | (go_at_call 76; exact cP _ _) | (go_at_call 77; exact cT _ _)))
    refine wpQuiet_nil ?_
    intro W2 hW2
    have hbW2 : Below w1.heap.size w1 W2 := by
      obtain ⟨⟨d, os⟩, rfl⟩ := hW2
      exact below_regrown w1 d os
    have KB2 : Hid (Below w.heap.size w W2) := KB.out.trans (hbW2.mono KB.out.size)
    clear hW2 hbW2 cP cT q1 p0 p1 KB
    go_wp2_with fail
    go_ret
    exact ⟨ret_int HE.out.symm, KB2.out⟩
set_option maxRecDepth 100000 in
set_option maxHeartbeats 4000000 in
theorem implHFault_any (w : World) (a : Option Addr) (cap : Nat) (l : List Hdr) (hl : l.length ≤ 1048576) (hset : SetIs w) (hi : HdsIn w a l) :
    Calls Tryd.prog 39 #[.slice a l.length cap] w fun e w' => e = .returned (.int .i64 (headsC l)) ∧ Below w.heap.size w w' := by
  by_cases h20 : 20 < l.length
  · have HE : Hid (headsC l = 2) := headsC_many h20
    have g : (20 : Int) < (l.length : Int) := by omega
    clear hi hset
    generalize l.length = n at *
    go_enter Tryd.func39, Tryd.ntmps39
    go_wp2_with fail
    go_ret
    exact ⟨ret_int HE.out.symm, Below.refl _ _⟩
  have HC : Hid (headsC l = faultHL l) := headsC_few h20
  have HI : Hid (HdsIn w a l) := hi
  have HS : Hid (SetIs w) := hset
  clear hi hset
  generalize hn : l.length = n at *
  have HN : Hid (l.length = n) := hn
  clear hn
  have g : ¬ (20 : Int) < (n : Int) := by omega
  go_enter Tryd.func39, Tryd.ntmps39
  go_wp2_with fail
  go_loopw [11] (fun i wr => ∃ k : Nat, k ≤ n ∧ i = .int .i64 k ∧ faultHL l = faultHL (l.drop k) ∧ Below w.heap.size w wr) (fun i _ => n - (intOf i).toNat)
  case atStart => exact ⟨0, Nat.zero_le _, rfl, rfl, Below.refl _ _⟩
  case round =>
    obtain ⟨k, hk, rfl, hf, hb⟩ := hrel
    have HF : Hid (faultHL l = faultHL (l.drop k)) := hf
    clear hf
    by_cases hlt : k < n
    · obtain ⟨r, hr⟩ : ∃ r, l[k]? = some r := ⟨l[k]'(by have := HN.out; omega), List.getElem?_eq_getElem _⟩
      rcases HI.out with h | ⟨b, off, rfl, hat⟩
      · subst h; simp at hr
      obtain ⟨p1, p3⟩ := (hat.keep hb) k r hr
      have HD : Hid (l.drop k = r :: l.drop (k + 1)) := drop_hdr l k r hr
      have gk : (k : Int) < n := by omega
      have SF : Hid (∀ W, Below wr.heap.size wr W → Calls Tryd.prog 63 #[.agg #[.string r.name, .string r.value]] W fun e w' => e = .returned (.int .i64 (faultH r)) ∧ Below W.heap.size W w') := fun W h => implLine_any r W ((HS.out.below hb).below h)
      clear hr hat HI
      by_cases hfr : faultH r = 0
      · have HX : Hid (faultHL l = faultHL (l.drop (k + 1))) := by show _ = _; rw [HF.out, HD.out, faultHL_ok hfr]
        rw [hfr] at SF
        clear hfr HD HF
        obtain ⟨rn, rv⟩ := r
        simp only at p1 p3 SF
        go_wp2_with fail
        refine (SF.out _ ((Below.refl _ _).alloc (Nat.le_refl _) _)).mono ?_
        rintro e w2 ⟨rfl, hb2⟩
        obtain ⟨_, _, _, kb⟩ := hdr_room hb2
        have hbb := hb.trans (kb.mono hb.size)
        clear hb2 hb kb
        go_wp2_with fail
        go_roundw
        case rel => exact ⟨k + 1, by omega, by go_num, HX.out, hbb⟩
        case measure => simp [intOf]; omega
      · have HX : Hid (headsC l = faultH r) := by show _ = _; rw [HC.out, HF.out, HD.out, faultHL_bad hfr]
        clear HD HF HC
        obtain ⟨rn, rv⟩ := r
        simp only at p1 p3 SF
        generalize faultH ⟨rn, rv⟩ = fr at *
        go_wp2_with fail
        refine (SF.out _ ((Below.refl _ _).alloc (Nat.le_refl _) _)).mono ?_
        rintro e w2 ⟨rfl, hb2⟩
        obtain ⟨_, _, _, kb⟩ := hdr_room hb2
        have hbb := hb.trans (kb.mono hb.size)
        clear hb2 hb kb
        go_wp2_with fail
        go_ret
        exact ⟨ret_int HX.out.symm, hbb⟩
    · have HX : Hid (headsC l = 0) := by
        show _ = _
        rw [HC.out, HF.out, List.drop_of_length_le (by have := HN.out; omega)]
        rfl
      clear HF HC
      go_wp2_with fail
      go_ret
      exact ⟨ret_int HX.out.symm, hb⟩
end Go.Proofs.YtelbddgdaibolaaDoor
