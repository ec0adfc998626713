/-
  Texts of one claim, one behind the other.
-/
import Derived.BigQuiet
import Derived.Deep.CutRange
import Derived.Deep.RegionHeld3
import Derived.Deep.RegionWith
import Derived.Deep.Slices
import Derived.Deep.Strs
import Derived.LaidEql
import Derived.Laws.CopyOwn
import Derived.Laws.RangeAny
import Derived.Laws.Tables
import Derived.Lib.OthersKept
import Derived.Lib.QuietBelow
import Derived.MakeChecks
import Derived.Maps.OwnSet
import Derived.OwnWalk
import Derived.RowKitTokens
import Derived.Shelf.Strings.Prefix
import Derived.Stop.Asserts
import Derived.Stop.LaidErr
import Derived.Test.YtmnblligifgcjaaGreatDoorRows
import Derived.Test.YtmnblligifgcjaaGreatDoorNmA
/-
  What lineFault and HeadersFault answer.
-/
namespace Go.Proofs.YtmnblligifgcjaaGreatDoor
open Go.ChangeShapes Go.WideShapes Go.ChangeAt Go.RowKit Go.Sort
theorem hdr_room {w w1 : World} {n v : ByteArray} {t : TypeId} (hb : Below (w.alloc (.cells #[.string n, .string v] t)).heap.size (w.alloc (.cells #[.string n, .string v] t)) w1) :
    w.heap.size < w1.heap.size ∧ w1.cell? ⟨w.heap.size, 0, none⟩ = some (.string n) ∧ w1.cell? ⟨w.heap.size, 1, none⟩ = some (.string v) ∧ Below w.heap.size w w1 := by
  rw [World.size_alloc] at hb
  have hz := hb.size
  simp only [World.size_alloc] at hz
  exact ⟨hz, by rw [hb.cell (p := ⟨w.heap.size, 0, none⟩) (Nat.lt_succ_self _)]; simp, by rw [hb.cell (p := ⟨w.heap.size, 1, none⟩) (Nat.lt_succ_self _)]; simp, ((Below.refl _ _).alloc (Nat.le_refl _) _).trans (hb.mono (Nat.le_succ _))⟩
theorem hkeep {W W' : World} (hb : Below W.heap.size W W') {p : Addr} {v : Value} (h : W.cell? p = some v) : W'.cell? p = some v := by
  rw [hb.cell (block_lt_of_cell h)]; exact h
set_option maxHeartbeats 2000000 in
theorem implLine_any (r : Hdr) (w : World) (hset : SetIs w) :
    Calls Tryz.prog 47 #[.agg #[.string r.name, .string r.value]] w fun e w' => e = .returned (.int .i64 (faultH r)) ∧ Below w.heap.size w w' := by
  obtain ⟨n, v⟩ := r
  simp only
  have HW : Hid (Calls Tryz.prog 52 #[.string n] (w.alloc (.cells #[.string n, .string v] 51)) fun e w' => e = .returned (.bool (wordS n)) ∧ Below (w.alloc (.cells #[.string n, .string v] 51)).heap.size (w.alloc (.cells #[.string n, .string v] 51)) w') := implIsWord_set n _ (hset.below ((Below.refl _ _).alloc (Nat.le_refl _) _))
  clear hset
  cases hw : wordS n
  · have HE : Hid (faultH ⟨n, v⟩ = 5) := by show _ = _; simp [faultH, hw]
    rw [hw] at HW
    clear hw
    go_enter Tryz.func47, Tryz.ntmps47
    go_wp2_with fail
    refine HW.out.mono ?_
    rintro e w1 ⟨rfl, hb1⟩
    obtain ⟨hz1, p0, p1, kb⟩ := hdr_room hb1
    have KB : Hid (Below w.heap.size w w1) := kb
    clear hb1 kb
    go_wp2_with fail
    go_ret
    exact ⟨ret_int HE.out.symm, KB.out⟩
  rw [hw] at HW
  by_cases hbig : 200 < v.size
  · have HE : Hid (faultH ⟨n, v⟩ = 2) := by show _ = _; simp only [faultH, hw]; rw [if_neg (by simp), if_pos hbig]
    have g : (200 : Int) < v.size := by omega
    clear hw
    go_enter Tryz.func47, Tryz.ntmps47
    go_wp2_with fail
    refine HW.out.mono ?_
    rintro e w1 ⟨rfl, hb1⟩
    obtain ⟨hz1, p0, p1, kb⟩ := hdr_room hb1
    have KB : Hid (Below w.heap.size w w1) := kb
    clear hb1 kb
    go_wp2_with fail
    go_ret
    exact ⟨ret_int HE.out.symm, KB.out⟩
  have g : ¬ (200 : Int) < v.size := by omega
  have HP : Hid (∀ w, Calls Tryz.prog 69 #[.string v] w fun e w' => e = .returned (.bool (plainL v.data.toList)) ∧ Below w.heap.size w w') := fun w => (allPlain_any v w (by omega)).mono fun _ _ ⟨h1, h2⟩ => ⟨h1, h2 ▸ Below.refl _ _⟩
  have HT : Hid (∀ w, Calls Tryz.prog 70 #[.string v, .string ⟨#[32, 9]⟩] w fun e w' => e = .returned (.string (trimT v)) ∧ Below w.heap.size w w') := fun w => trim_big v w (by omega)
  cases hp : plainL v.data.toList
  · have HE : Hid (faultH ⟨n, v⟩ = 5) := by show _ = _; simp only [faultH, hw]; rw [if_neg (by simp), if_neg hbig, if_pos hp]
    rw [hp] at HP
    clear hw hp hbig
    go_enter Tryz.func47, Tryz.ntmps47
    go_wp2_with fail
    refine HW.out.mono ?_
    rintro e w1 ⟨rfl, hb1⟩
    obtain ⟨hz1, p0, p1, kb⟩ := hdr_room hb1
    have KB : Hid (Below w.heap.size w w1) := kb
    clear hb1 kb
    go_wp2_with fail
    have q1 := cell_regrown p1
    have cP : ∀ d' os, Calls Tryz.prog 69 #[.string v] (grow (redrawn w1 d') os) fun e w'' => e = .returned (.bool false) ∧ ∃ p : Regrown, w'' = grow (redrawn w1 p.d) p.os := fun d' os => Calls.regrown_of (HP.out _)
    refine wp_region_quiet_below (by kernel_rfl) (by kernel_rfl) ?_
    repeat (go_big_quiet_step (first | (go_at_call 69; exact cP _ _)))
    refine wpQuiet_nil ?_
    intro W2 hW2
    have hbW2 : Below w1.heap.size w1 W2 := by
      obtain ⟨⟨d, os⟩, rfl⟩ := hW2
      exact below_regrown w1 d os
    have KB2 : Hid (Below w.heap.size w W2) := KB.out.trans (hbW2.mono KB.out.size)
    clear hW2 hbW2 cP q1 p0 p1 KB
    go_wp2_with fail
    go_ret
    exact ⟨ret_int HE.out.symm, KB2.out⟩
  rw [hp] at HP
  by_cases ht : trimT v = v
  · have HE : Hid (faultH ⟨n, v⟩ = 0) := by show _ = _; simp only [faultH, hw]; rw [if_neg (by simp), if_neg hbig, if_neg (by simp [hp]), if_pos ht]
    rw [ht] at HT
    clear hw hp hbig ht
    go_enter Tryz.func47, Tryz.ntmps47
    go_wp2_with fail
    refine HW.out.mono ?_
    rintro e w1 ⟨rfl, hb1⟩
    obtain ⟨hz1, p0, p1, kb⟩ := hdr_room hb1
    have KB : Hid (Below w.heap.size w w1) := kb
    clear hb1 kb
    go_wp2_with fail
    have q1 := cell_regrown p1
    have cP : ∀ d' os, Calls Tryz.prog 69 #[.string v] (grow (redrawn w1 d') os) fun e w'' => e = .returned (.bool true) ∧ ∃ p : Regrown, w'' = grow (redrawn w1 p.d) p.os := fun d' os => Calls.regrown_of (HP.out _)
    have cT : ∀ d' os, Calls Tryz.prog 70 #[.string v, .string ⟨#[32, 9]⟩] (grow (redrawn w1 d') os) fun e w'' => e = .returned (.string v) ∧ ∃ p : Regrown, w'' = grow (redrawn w1 p.d) p.os := fun d' os => Calls.regrown_of (HT.out _)
    refine wp_region_quiet_below (by kernel_rfl) (by kernel_rfl) ?_
    repeat (go_big_quiet_step (first | (go_at_call 69; exact cP _ _) | (go_at_call 70; exact cT _ _)))
    refine wpQuiet_nil ?_
    intro W2 hW2
    have hbW2 : Below w1.heap.size w1 W2 := by
      obtain ⟨⟨d, os⟩, rfl⟩ := hW2
      exact below_regrown w1 d os
    have KB2 : Hid (Below w.heap.size w W2) := KB.out.trans (hbW2.mono KB.out.size)
    clear hW2 hbW2 cP cT q1 p0 p1 KB
    go_wp2_with fail
    go_ret
    exact ⟨ret_int HE.out.symm, KB2.out⟩
  · have HE : Hid (faultH ⟨n, v⟩ = 5) := by show _ = _; simp only [faultH, hw]; rw [if_neg (by simp), if_neg hbig, if_neg (by simp [hp]), if_neg ht]
    have hq := hstr_ne ht
    generalize trimT v = t at *
    clear hw hp hbig ht
    go_enter Tryz.func47, Tryz.ntmps47
    go_wp2_with fail
    refine HW.out.mono ?_
    rintro e w1 ⟨rfl, hb1⟩
    obtain ⟨hz1, p0, p1, kb⟩ := hdr_room hb1
    have KB : Hid (Below w.heap.size w w1) := kb
    clear hb1 kb
    go_wp2_with fail
    have q1 := cell_regrown p1
    have cP : ∀ d' os, Calls Tryz.prog 69 #[.string v] (grow (redrawn w1 d') os) fun e w'' => e = .returned (.bool true) ∧ ∃ p : Regrown, w'' = grow (redrawn w1 p.d) p.os := fun d' os => Calls.regrown_of (HP.out _)
    have cT : ∀ d' os, Calls Tryz.prog 70 #[.string v, .string ⟨#[32, 9]⟩] (grow (redrawn w1 d') os) fun e w'' => e = .returned (.string t) ∧ ∃ p : Regrown, w'' = grow (redrawn w1 p.d) p.os := fun d' os => Calls.regrown_of (HT.out _)
    refine wp_region_quiet_below (by kernel_rfl) (by kernel_rfl) ?_
    repeat (go_big_quiet_step (first | (go_at_call 69; exact cP _ _) | (go_at_call 70; exact cT _ _)))
    refine wpQuiet_nil ?_
    intro W2 hW2
    have hbW2 : Below w1.heap.size w1 W2 := by
      obtain ⟨⟨d, os⟩, rfl⟩ := hW2
      exact below_regrown w1 d os
    have KB2 : Hid (Below w.heap.size w W2) := KB.out.trans (hbW2.mono KB.out.size)
    clear hW2 hbW2 cP cT q1 p0 p1 KB
    go_wp2_with fail
    go_ret
    exact ⟨ret_int HE.out.symm, KB2.out⟩
set_option maxRecDepth 100000 in
set_option maxHeartbeats 4000000 in
theorem implHFault_any (w : World) (a : Option Addr) (cap : Nat) (l : List Hdr) (hl : l.length ≤ 1048576) (hset : SetIs w) (hi : HdsIn w a l) :
    Calls Tryz.prog 21 #[.slice a l.length cap] w fun e w' => e = .returned (.int .i64 (headsC l)) ∧ Below w.heap.size w w' := by
  by_cases h20 : 20 < l.length
  · have HE : Hid (headsC l = 2) := headsC_many h20
    have g : (20 : Int) < (l.length : Int) := by omega
    clear hi hset
    generalize l.length = n at *
    go_enter Tryz.func21, Tryz.ntmps21
    go_wp2_with fail
    go_ret
    exact ⟨ret_int HE.out.symm, Below.refl _ _⟩
  have HC : Hid (headsC l = faultHL l) := headsC_few h20
  have HI : Hid (HdsIn w a l) := hi
  have HS : Hid (SetIs w) := hset
  clear hi hset
  generalize hn : l.length = n at *
  have HN : Hid (l.length = n) := hn
  clear hn
  have g : ¬ (20 : Int) < (n : Int) := by omega
  go_enter Tryz.func21, Tryz.ntmps21
  go_wp2_with fail
  go_loopw [11] (fun i wr => ∃ k : Nat, k ≤ n ∧ i = .int .i64 k ∧ faultHL l = faultHL (l.drop k) ∧ Below w.heap.size w wr) (fun i _ => n - (intOf i).toNat)
  case atStart => exact ⟨0, Nat.zero_le _, rfl, rfl, Below.refl _ _⟩
  case round =>
    obtain ⟨k, hk, rfl, hf, hb⟩ := hrel
    have HF : Hid (faultHL l = faultHL (l.drop k)) := hf
    clear hf
    by_cases hlt : k < n
    · obtain ⟨r, hr⟩ : ∃ r, l[k]? = some r := ⟨l[k]'(by have := HN.out; omega), List.getElem?_eq_getElem _⟩
      rcases HI.out with h | ⟨b, off, rfl, hat⟩
      · subst h; simp at hr
      obtain ⟨p1, p3⟩ := (hat.keep hb) k r hr
      have HD : Hid (l.drop k = r :: l.drop (k + 1)) := drop_hdr l k r hr
      have gk : (k : Int) < n := by omega
      have SF : Hid (∀ W, Below wr.heap.size wr W → Calls Tryz.prog 47 #[.agg #[.string r.name, .string r.value]] W fun e w' => e = .returned (.int .i64 (faultH r)) ∧ Below W.heap.size W w') := fun W h => implLine_any r W ((HS.out.below hb).below h)
      clear hr hat HI
      by_cases hfr : faultH r = 0
      · have HX : Hid (faultHL l = faultHL (l.drop (k + 1))) := by show _ = _; rw [HF.out, HD.out, faultHL_ok hfr]
        rw [hfr] at SF
        clear hfr HD HF
        obtain ⟨rn, rv⟩ := r
        simp only at p1 p3 SF
        go_wp2_with fail
        refine (SF.out _ ((Below.refl _ _).alloc (Nat.le_refl _) _)).mono ?_
        rintro e w2 ⟨rfl, hb2⟩
        obtain ⟨_, _, _, kb⟩ := hdr_room hb2
        have hbb := hb.trans (kb.mono hb.size)
        clear hb2 hb kb
        go_wp2_with fail
        go_roundw
        case rel => exact ⟨k + 1, by omega, by go_num, HX.out, hbb⟩
        case measure => simp [intOf]; omega
      · have HX : Hid (headsC l = faultH r) := by show _ = _; rw [HC.out, HF.out, HD.out, faultHL_bad hfr]
        clear HD HF HC
        obtain ⟨rn, rv⟩ := r
        simp only at p1 p3 SF
        generalize faultH ⟨rn, rv⟩ = fr at *
        go_wp2_with fail
        refine (SF.out _ ((Below.refl _ _).alloc (Nat.le_refl _) _)).mono ?_
        rintro e w2 ⟨rfl, hb2⟩
        obtain ⟨_, _, _, kb⟩ := hdr_room hb2
        have hbb := hb.trans (kb.mono hb.size)
        clear hb2 hb kb
        go_wp2_with fail
        go_ret
        exact ⟨ret_int HX.out.symm, hbb⟩
    · have HX : Hid (headsC l = 0) := by
        show _ = _
        rw [HC.out, HF.out, List.drop_of_length_le (by have := HN.out; omega)]
        rfl
      clear HF HC
      go_wp2_with fail
      go_ret
      exact ⟨ret_int HX.out.symm, hb⟩
end Go.Proofs.YtmnblligifgcjaaGreatDoor
/-
  What LowerText answers where the text is not too long.
-/
namespace Go.Proofs.YtmnblligifgcjaaGreatDoor
open Go.ChangeShapes Go.WideShapes Go.ChangeAt Go.RowKit
set_option maxHeartbeats 1000000 in
theorem implLower_any (s : ByteArray) (w : World) (hs : s.size ≤ 1000) :
    Calls Tryz.prog 62 #[.string s] w fun e w' => e = .returned (.agg #[.int .i64 0, .string (lowS s)]) ∧ Below w.heap.size w w' := by
  obtain ⟨C, cap, hcv, hrow⟩ : ∃ C cap, (convert 9 22 (.string s)).run Tryz.prog (w.alloc (.cells #[.int .i64 0, .string ⟨#[]⟩] 29)) = .ok (.slice (some ⟨w.heap.size + 1, 0, none⟩) s.size cap) ((w.alloc (.cells #[.int .i64 0, .string ⟨#[]⟩] 29)).drew.alloc (.cells C 5 (C.size, C.size + 1))) ∧ BRow ((w.alloc (.cells #[.int .i64 0, .string ⟨#[]⟩] 29)).alloc (.cells C 5 (C.size, C.size + 1))) (w.heap.size + 1) s.data.toList := by
    have h1 := run_bytes_of_string (P := Tryz.prog) (w.alloc (.cells #[.int .i64 0, .string ⟨#[]⟩] 29)) 9 22 5 s Tryz.underlying9 Tryz.underlying22 Tryz.underlying5
    have h2 := fun cap => BRow.made (w.alloc (.cells #[.int .i64 0, .string ⟨#[]⟩] 29)) s cap _ rfl
    simp only [World.size_alloc] at h1 h2
    exact ⟨_, _, h1, h2 _⟩
  have hns : ¬ (1000 : Int) < s.size := by omega
  go_enter Tryz.func62, Tryz.ntmps62
  go_wp2
  go_loopw [14] (fun i wr => ∃ k : Nat, k ≤ s.size ∧ i = .int .i64 k ∧ BRow wr (w.heap.size + 1) (lowK s.data.toList k) ∧ Below (w.heap.size + 1) (w.alloc (.cells #[.int .i64 0, .string ⟨#[]⟩] 29)) wr) (fun i _ => s.size - (intOf i).toNat)
  case atStart => exact ⟨0, Nat.zero_le _, rfl, by rw [lowK_zero]; exact ⟨hrow.cell, hrow.free⟩, ((Below.refl _ _).alloc (by simp) _).drew⟩
  case round =>
    obtain ⟨k, hk, rfl, hr, hb⟩ := hrel
    clear hcv hrow
    have hlen := lowK_length s.data.toList k
    by_cases hlt : k < s.size
    · have hl : k < s.data.toList.length := by simpa using hlt
      have hl2 : k < (lowK s.data.toList k).length := by omega
      have hc := hr.cell k hl2
      have hf := hr.free k hl2
      rw [lowK_at _ _ hl hl2] at hc
      have Y : Hid (65 ≤ (s.data.toList[k].toNat : Int) ∧ (s.data.toList[k].toNat : Int) ≤ 90 → BRow (wr.setCell ⟨w.heap.size + 1, k, none⟩ (.int .u8 ((s.data.toList[k].toNat : Int) + 32))) (w.heap.size + 1) (lowK s.data.toList (k + 1))) := by
        intro ⟨u1, u2⟩
        have := hr.set k (lowU s.data.toList[k])
        rw [lowU_yes _ u1 u2] at this
        rw [lowK_succ _ _ hl]
        exact this
      have N : Hid (¬ (65 ≤ (s.data.toList[k].toNat : Int) ∧ (s.data.toList[k].toNat : Int) ≤ 90) → BRow wr (w.heap.size + 1) (lowK s.data.toList (k + 1))) := by
        intro u
        rw [lowK_keep _ _ hl u]
        exact hr
      generalize s.data.toList[k] = x at *
      clear hr hlen hl2 hl
      by_cases hU : 65 ≤ (x.toNat : Int) ∧ (x.toNat : Int) ≤ 90
      · have R : Hid (BRow (wr.setCell ⟨w.heap.size + 1, k, none⟩ (.int .u8 ((x.toNat : Int) - 65 + 97))) (w.heap.size + 1) (lowK s.data.toList (k + 1))) := by
          have := Y.out hU
          rw [show (x.toNat : Int) + 32 = (x.toNat : Int) - 65 + 97 from by omega] at this
          exact this
        obtain ⟨u1, u2⟩ := hU
        have d2 : decide ((x.toNat : Int) ≤ 90) = true := by simpa using u2
        clear Y N
        go_wp2
        go_roundw
        case rel => exact ⟨k + 1, by omega, by go_num, R.out, hb.setCell (Nat.le_refl _) _⟩
        case measure => simp [intOf]; omega
      · have R : Hid (BRow wr (w.heap.size + 1) (lowK s.data.toList (k + 1))) := N.out hU
        clear Y N
        by_cases u1 : 65 ≤ (x.toNat : Int)
        · have u2 : 90 < (x.toNat : Int) := by omega
          have d2 : decide ((x.toNat : Int) ≤ 90) = false := by simp; omega
          clear hU
          go_wp2
          go_roundw
          case rel => exact ⟨k + 1, by omega, by go_num, R.out, hb⟩
          case measure => simp [intOf]; omega
        · clear hU
          go_wp2
          go_roundw
          case rel => exact ⟨k + 1, by omega, by go_num, R.out, hb⟩
          case measure => simp [intOf]; omega
    · have e : lowK s.data.toList k = s.data.toList.map lowU := lowK_all _ _ (by simp; omega)
      rw [e] at hr
      have hback := hr.back (P := Tryz.prog) 22 9 5 s.size cap (by simp) Tryz.underlying22 Tryz.underlying5 Tryz.underlying9
      have HL : Hid ((⟨(s.data.toList.map lowU).toArray⟩ : ByteArray) = lowS s) := rfl
      generalize (⟨(s.data.toList.map lowU).toArray⟩ : ByteArray) = r at *
      clear hr e hlen
      have p0 : wr.cell? ⟨w.heap.size, 0, none⟩ = some (.int .i64 0) := by rw [hb.cell (p := ⟨w.heap.size, 0, none⟩) (Nat.lt_succ_self _)]; simp
      have p1 : wr.cell? ⟨w.heap.size, 1, none⟩ = some (.string ⟨#[]⟩) := by rw [hb.cell (p := ⟨w.heap.size, 1, none⟩) (Nat.lt_succ_self _)]; simp
      have f0 : wr.frozen? ⟨w.heap.size, 0, none⟩ = false := by rw [hb.frozen (p := ⟨w.heap.size, 0, none⟩) (Nat.lt_succ_self _)]; simp
      have f1 : wr.frozen? ⟨w.heap.size, 1, none⟩ = false := by rw [hb.frozen (p := ⟨w.heap.size, 1, none⟩) (Nat.lt_succ_self _)]; simp
      obtain ⟨q0, q1⟩ := two_set (v0 := .int .i64 0) (v1 := .string r) p0 p1
      go_wp2
      have kb : Below w.heap.size w wr := ((Below.refl _ _).alloc (Nat.le_refl _) _).trans (hb.mono (Nat.le_succ _))
      exact bodyPost_ret (v := .agg #[.int .i64 0, .string r]) (by simp [results, Tryz.results62, go_sem, q0, q1]) rfl ⟨by rw [HL.out], (kb.setCell (Nat.le_refl _) _).setCell (Nat.le_refl _) _⟩
set_option maxHeartbeats 400000 in
theorem implLower_long (s : ByteArray) (w : World) (h : 1000 < s.size) :
    Calls Tryz.prog 62 #[.string s] w fun e w' => e = .returned (.agg #[.int .i64 2, .string ⟨#[]⟩]) ∧ Below w.heap.size w w' := by
  have hh : (1000 : Int) < s.size := by omega
  go_enter Tryz.func62, Tryz.ntmps62
  go_wp2
  exact bodyPost_ret (v := .agg #[.int .i64 2, .string ⟨#[]⟩]) (by simp [results, Tryz.results62, go_sem]) rfl ⟨rfl, (Below.refl _ _).alloc (Nat.le_refl _) _⟩
end Go.Proofs.YtmnblligifgcjaaGreatDoor
/-
  Fields of results; what lies in memory behind a call.
-/
namespace Go.Proofs.YtmnblligifgcjaaGreatDoor
open Go.ChangeShapes Go.WideShapes Go.ChangeAt Go.RowKit Go.Sort
theorem f_field_code (c : Int) (s : ByteArray) (w : World) : (Instr.field 29 (.agg #[.int .i64 c, .string s]) 0).run Tryz.prog w = .ok (.int .i64 c) w := by kernel_rfl
theorem f_field_text (c : Int) (s : ByteArray) (w : World) : (Instr.field 29 (.agg #[.int .i64 c, .string s]) 1).run Tryz.prog w = .ok (.string s) w := by kernel_rfl
theorem f_keep {W W' : World} (hb : Below W.heap.size W W') {p : Addr} {v : Value} (h : W.cell? p = some v) : W'.cell? p = some v := by
  rw [hb.cell (block_lt_of_cell h)]; exact h
theorem f_keepA {W : World} {p : Addr} {v : Value} (o : Obj) (h : W.cell? p = some v) : (W.alloc o).cell? p = some v := f_keep ((Below.refl _ _).alloc (Nat.le_refl _) _) h
end Go.Proofs.YtmnblligifgcjaaGreatDoor
/-
  A map of texts to places, in memory: what is asked of it, what is laid into it, what goes from it.
-/
namespace Go.Proofs.YtmnblligifgcjaaGreatDoor
open Go.ChangeShapes Go.WideShapes Go.ChangeAt Go.RowKit Go.Maps
open Go.WideMaps (keyOf_string_mk)
theorem isKeyL (x : ByteArray) : WideAt.IsKeyLit (.string x.data.toList) := trivial
theorem hkeyed : Keyed Tryz.prog 9 := string_keyed Tryz.underlying9
theorem hzeroInt (w : World) : (zeroValue 3).run Tryz.prog w = .ok (.int .i64 0) w := by kernel_rfl
def keyL (x : ByteArray) : Lit := .string x.data.toList
theorem keyL_ne {x y : ByteArray} (h : x ≠ y) : keyL x ≠ keyL y := by
  intro e
  unfold keyL at e
  simp only [Lit.string.injEq] at e
  exact h (ByteArray.ext (Array.ext' e))
/-- Block B is a map of at most n entries that has p's places at p's names. -/
def NamesMap (w : World) (B n : Nat) (p : ByteArray → Option Nat) : Prop :=
  ∃ D : DataW Unit, w.ownsMap Tryz.prog 9 (plainElem Tryz.prog 3) B n D ∧ ∀ x : ByteArray, Maps.has D (keyL x) = (p x).isSome ∧ ∀ i, p x = some i → D.atKey (keyL x) (.lit (.int .i64 0)) = .lit (.int .i64 (i : Int))
theorem NamesMap.lt {w : World} {B n : Nat} {p : ByteArray → Option Nat} (h : NamesMap w B n p) : B < w.heap.size := by
  obtain ⟨D, h, _⟩ := h
  exact h.lt
theorem NamesMap.below {w w' : World} {B n : Nat} {p : ByteArray → Option Nat} (h : NamesMap w B n p) (hb : Below w.heap.size w w') : NamesMap w' B n p := by
  have hl := h.lt
  obtain ⟨D, ⟨es, clock, hh, r⟩, h2⟩ := h
  exact ⟨D, ⟨es, clock, by rw [hb.block B hl]; exact hh, r⟩, h2⟩
theorem NamesMap.setCell {w : World} {B n : Nat} {p : ByteArray → Option Nat} (h : NamesMap w B n p) {a : Addr} (ha : B ≠ a.block) (u : Value) : NamesMap (w.setCell a u) B n p := by
  obtain ⟨D, h, h2⟩ := h
  exact ⟨D, h.setCell ha u, h2⟩
theorem NamesMap.made (w : World) : NamesMap (w.alloc (.map #[] 0)) w.heap.size 0 (fun _ => none) :=
  ⟨.map [], World.ownsMap_made w _ _ _, fun x => ⟨rfl, fun i h => by cases h⟩⟩
theorem NamesMap.of {w : World} {B n : Nat} {p q : ByteArray → Option Nat} (h : NamesMap w B n p) (e : ∀ x, p x = q x) : NamesMap w B n q := by
  obtain rfl : p = q := funext e
  exact h
theorem turned_below {w w' : World} {B base : Nat} (h : w.mapTurned w' B) (hb : base ≤ B) : Below base w w' :=
  (Below.refl base w).grown h.grown (by
    obtain ⟨es, clock, es', clock', hh, rfl⟩ := h
    have := (Array.getElem?_eq_some_iff.1 hh).1
    omega) (fun q hq => by cases hq; exact hb)
section
variable {ops : Array Oper} {rest : List Oper} {o : Oper} {a : Act} {Q : Exit → Act → World → Prop}
theorem wpList_look_none (w : World) (hg : o.guard = none) (m x : Operand) (hop : o.op = Op.lookup 69 m x true) (B n : Nat) (p : ByteArray → Option Nat)
    (hm : a.eval m = .map (some B)) (hown : NamesMap w B n p) (key : ByteArray) (hx : a.eval x = .string key) (hk : key.size ≤ 1048576) (hp : p key = none)
    (hK : wpList Tryz.prog ops Q rest (a.put o.dst (.tuple #[.int .i64 0, .bool false])) w) : wpList Tryz.prog ops Q (o :: rest) a w := by
  obtain ⟨D, hD, hat⟩ := hown
  have h1 : Maps.has D (keyL key) = false := by rw [(hat key).1, hp]; rfl
  refine wpList_lookup_own_ok_int w hg m x 69 hop 9 3 .i64 hkeyed Tryz.underlying69 Tryz.underlying3 (hzeroInt w) B n D hm hD _ (keyL key) hx (keyOf_string_mk Tryz.underlying9 (by unfold maxLen; omega)) ?_
  intro c hc _
  rw [atKey_of_not_has h1] at hc
  obtain rfl : c = 0 := by simpa using hc.symm
  rw [h1]
  exact hK
theorem wpList_look_some (w : World) (hg : o.guard = none) (m x : Operand) (hop : o.op = Op.lookup 69 m x true) (B n : Nat) (p : ByteArray → Option Nat)
    (hm : a.eval m = .map (some B)) (hown : NamesMap w B n p) (key : ByteArray) (hx : a.eval x = .string key) (hk : key.size ≤ 1048576) (i : Nat) (hp : p key = some i)
    (hK : wpList Tryz.prog ops Q rest (a.put o.dst (.tuple #[.int .i64 (i : Int), .bool true])) w) : wpList Tryz.prog ops Q (o :: rest) a w := by
  obtain ⟨D, hD, hat⟩ := hown
  have h1 : Maps.has D (keyL key) = true := by rw [(hat key).1, hp]; rfl
  refine wpList_lookup_own_ok_int w hg m x 69 hop 9 3 .i64 hkeyed Tryz.underlying69 Tryz.underlying3 (hzeroInt w) B n D hm hD _ (keyL key) hx (keyOf_string_mk Tryz.underlying9 (by unfold maxLen; omega)) ?_
  intro c hc _
  rw [(hat key).2 i hp] at hc
  obtain rfl : c = (i : Int) := by simpa using hc.symm
  rw [h1]
  exact hK
theorem wpList_put (w : World) (hg : o.guard = none) (m x v : Operand) (hop : o.op = Op.mapUpdate 69 m x v) (B n : Nat) (p : ByteArray → Option Nat)
    (hm : a.eval m = .map (some B)) (hown : NamesMap w B n p) (hn : n ≤ 1048576) (key : ByteArray) (hx : a.eval x = .string key) (hk : key.size ≤ 1048576) (i : Nat) (hi : i ≤ 1048576) (hv : a.eval v = .int .i64 (i : Int)) (base : Nat) (hbase : base ≤ B)
    (hK : ∀ w', NamesMap w' B (n + 1) (fun y => if y = key then some i else p y) → Below base w w' → wpList Tryz.prog ops Q rest (a.put o.dst undef) w') : wpList Tryz.prog ops Q (o :: rest) a w := by
  obtain ⟨D, hD, hat⟩ := hown
  refine wpList_mapUpdate_in w hg m x v 69 hop 9 3 hkeyed Tryz.underlying69 _ B n D hm hD (by unfold maxLen; omega) _ _ (keyL key) hx hv (keyOf_string_mk Tryz.underlying9 (by unfold maxLen; omega)) (.lit (.int .i64 (i : Int))) [] (plainElem_int Tryz.underlying3 (WalkArith.wf_i64 (by omega))) ?_
  intro w' hD' ht
  refine hK w' ⟨_, hD', fun y => ?_⟩ (turned_below ht hbase)
  by_cases e : y = key
  · subst e
    simp only [if_true]
    refine ⟨has_put_same hD.isMap (isKeyL _) _, fun j hj => ?_⟩
    obtain rfl := Option.some.inj hj
    exact atKey_put_same hD.isMap (isKeyL _) _ _
  · simp only [if_neg e]
    rw [has_put_other (keyL_ne e), atKey_put_other (keyL_ne e)]
    exact hat y
theorem wpList_del (w : World) (hg : o.guard = none) (m x : Operand) (hop : o.op = Op.call { callee := Callee.builtin Builtin.delete, args := #[m, x], argTypes := #[69, 9] }) (B n : Nat) (p : ByteArray → Option Nat)
    (hm : a.eval m = .map (some B)) (hown : NamesMap w B n p) (key : ByteArray) (hx : a.eval x = .string key) (hk : key.size ≤ 1048576) (base : Nat) (hbase : base ≤ B)
    (hK : ∀ w', NamesMap w' B n (fun y => if y = key then none else p y) → Below base w w' → wpList Tryz.prog ops Q rest (a.put o.dst (.tuple #[])) w') : wpList Tryz.prog ops Q (o :: rest) a w := by
  obtain ⟨D, hD, hat⟩ := hown
  refine wpList_delete_own w hg m x 69 9 hop 3 hkeyed Tryz.underlying69 _ B n D hm hD _ (keyL key) hx (keyOf_string_mk Tryz.underlying9 (by unfold maxLen; omega)) ?_
  intro w' hD' ht
  refine hK w' ⟨_, hD', fun y => ?_⟩ (turned_below ht hbase)
  by_cases e : y = key
  · subst e
    simp only [if_true]
    exact ⟨has_del_same, fun j hj => by cases hj⟩
  · simp only [if_neg e]
    rw [has_del_other (keyL_ne e), atKey_del_other (keyL_ne e)]
    exact hat y
end
end Go.Proofs.YtmnblligifgcjaaGreatDoor
/-
  Names that are alike; what is asked ahead by all that look for a name.
-/
namespace Go.Proofs.YtmnblligifgcjaaGreatDoor
open Go.ChangeShapes Go.WideShapes Go.ChangeAt Go.RowKit Go.Sort
theorem lowS_size (s : ByteArray) : (lowS s).size = s.size := by
  show ((s.data.toList.map lowU).toArray).size = s.data.size
  rw [List.size_toArray, List.length_map, Array.length_toList]
set_option maxHeartbeats 1000000 in
theorem smallName_any (s : ByteArray) (w : World) (hs : s.size ≤ 1000) :
    Calls Tryz.prog 37 #[.string s] w fun e w' => e = .returned (.string (lowS s)) ∧ Below w.heap.size w w' := by
  have HC := implLower_any s w hs
  have hf := f_field_text
  generalize lowS s = q at *
  go_enter Tryz.func37, Tryz.ntmps37
  go_wp2_with fail
  refine HC.mono ?_
  rintro e w1 ⟨rfl, hb⟩
  go_wp2_with fail
  go_ret
  exact ⟨rfl, hb⟩
set_option maxHeartbeats 1000000 in
theorem l4Alike_any (s t : ByteArray) (w : World) (hs : s.size ≤ 1048576) (ht : t.size ≤ 1048576) :
    Calls Tryz.prog 57 #[.string s, .string t] w fun e w' => e = .returned (.bool (decide (lowS s = lowS t))) ∧ Below w.heap.size w w' := by
  have H1 : Hid (∀ w, Calls Tryz.prog 67 #[.string s] w fun e w' => e = .returned (.string (lowS s)) ∧ Below w.heap.size w w') := fun w => l1Lower_any s w hs
  have H2 : Hid (∀ w, Calls Tryz.prog 67 #[.string t] w fun e w' => e = .returned (.string (lowS t)) ∧ Below w.heap.size w w') := fun w => l1Lower_any t w ht
  by_cases he : lowS s = lowS t
  · have HE : Hid (decide (lowS s = lowS t) = true) := by show _ = _; simpa using he
    rw [he] at H1
    clear he
    generalize lowS t = q at *
    go_enter Tryz.func57, Tryz.ntmps57
    go_wp2_with fail
    refine (H1.out _).mono ?_
    rintro e w1 ⟨rfl, hb1⟩
    go_wp2_with fail
    refine (H2.out _).mono ?_
    rintro e w2 ⟨rfl, hb2⟩
    have hbb := hb1.trans (hb2.mono hb1.size)
    clear hb1 hb2
    go_wp2_with fail
    go_ret
    exact ⟨ret_bool HE.out.symm, hbb⟩
  · have HE : Hid (decide (lowS s = lowS t) = false) := by show _ = _; simpa using he
    have hq := hstr_ne he
    clear he
    generalize lowS t = q at *
    generalize lowS s = p at *
    go_enter Tryz.func57, Tryz.ntmps57
    go_wp2_with fail
    refine (H1.out _).mono ?_
    rintro e w1 ⟨rfl, hb1⟩
    go_wp2_with fail
    refine (H2.out _).mono ?_
    rintro e w2 ⟨rfl, hb2⟩
    have hbb := hb1.trans (hb2.mono hb1.size)
    clear hb1 hb2
    go_wp2_with fail
    go_ret
    exact ⟨ret_bool HE.out.symm, hbb⟩
set_option maxHeartbeats 1000000 in
theorem namedFault_any (w : World) (a : Option Addr) (cap : Nat) (l : List Hdr) (name : ByteArray) (hl : l.length ≤ 1048576) (hset : SetIs w) (hi : HdsIn w a l) :
    Calls Tryz.prog 35 #[.slice a l.length cap, .string name] w fun e w' => e = .returned (.int .i64 (askC l name)) ∧ Below w.heap.size w w' := by
  have HF := implHFault_any w a cap l hl hset hi
  have HS : Hid (SetIs w) := hset
  clear hi hset
  by_cases h0 : headsC l = 0
  · rw [h0] at HF
    generalize l.length = n at *
    cases hw : wordS name
    · have HE : Hid (askC l name = 5) := askC_text h0 hw
      have HW : Hid (wordS name = false) := hw
      clear h0 hw
      go_enter Tryz.func35, Tryz.ntmps35
      go_wp2_with fail
      refine HF.mono ?_
      rintro e w1 ⟨rfl, hb1⟩
      go_wp2_with fail
      refine (implIsWord_set name _ (HS.out.below hb1)).mono ?_
      rintro e w2 ⟨rfl, hb2⟩
      rw [HW.out]
      have hbb := hb1.trans (hb2.mono hb1.size)
      clear hb1 hb2
      go_wp2_with fail
      go_ret
      exact ⟨ret_int HE.out.symm, hbb⟩
    · have HE : Hid (askC l name = 0) := askC_word h0 hw
      have HW : Hid (wordS name = true) := hw
      clear h0 hw
      go_enter Tryz.func35, Tryz.ntmps35
      go_wp2_with fail
      refine HF.mono ?_
      rintro e w1 ⟨rfl, hb1⟩
      go_wp2_with fail
      refine (implIsWord_set name _ (HS.out.below hb1)).mono ?_
      rintro e w2 ⟨rfl, hb2⟩
      rw [HW.out]
      have hbb := hb1.trans (hb2.mono hb1.size)
      clear hb1 hb2
      go_wp2_with fail
      go_ret
      exact ⟨ret_int HE.out.symm, hbb⟩
  · have HE : Hid (askC l name = headsC l) := askC_bad h0
    generalize headsC l = fc at *
    generalize l.length = n at *
    go_enter Tryz.func35, Tryz.ntmps35
    go_wp2_with fail
    refine HF.mono ?_
    rintro e w1 ⟨rfl, hb1⟩
    go_wp2_with fail
    go_ret
    exact ⟨ret_int HE.out.symm, hb1⟩
set_option maxHeartbeats 1000000 in
theorem hclone_any (s : ByteArray) (w : World) (hs : s.size ≤ 1048576) :
    Calls Tryz.prog 23 #[.string s] w fun e w' => e = .returned (.string s) ∧ Below w.heap.size w w' := by
  go_enter Tryz.func23, Tryz.ntmps23
  go_wp2_with fail
  refine (Any.stringslite_Clone Tryz.laysM316 s _ (by omega)).mono ?_
  rintro e w1 ⟨rfl, hb⟩
  go_wp2
  go_ret
  exact ⟨rfl, hb⟩
theorem hdr_free {w w1 : World} {t : TypeId} (hb : Below (w.heap.size + 1) (w.alloc (.cells #[.string ⟨#[]⟩, .string ⟨#[]⟩] t)) w1) :
    w.heap.size < w1.heap.size ∧ w1.cell? ⟨w.heap.size, 0, none⟩ = some (.string ⟨#[]⟩) ∧ w1.cell? ⟨w.heap.size, 1, none⟩ = some (.string ⟨#[]⟩) ∧ w1.frozen? ⟨w.heap.size, 0, none⟩ = false ∧ w1.frozen? ⟨w.heap.size, 1, none⟩ = false ∧ Below w.heap.size w w1 := by
  have hz := hb.size
  simp only [World.size_alloc] at hz
  exact ⟨hz, by rw [hb.cell (p := ⟨w.heap.size, 0, none⟩) (Nat.lt_succ_self _)]; simp, by rw [hb.cell (p := ⟨w.heap.size, 1, none⟩) (Nat.lt_succ_self _)]; simp, by rw [hb.frozen (p := ⟨w.heap.size, 0, none⟩) (Nat.lt_succ_self _)]; simp, by rw [hb.frozen (p := ⟨w.heap.size, 1, none⟩) (Nat.lt_succ_self _)]; simp, ((Below.refl _ _).alloc (Nat.le_refl _) _).trans (hb.mono (Nat.le_succ _))⟩
set_option maxHeartbeats 1000000 in
theorem lineOf_any (n v : ByteArray) (w : World) (hn : n.size ≤ 1048576) (hv : v.size ≤ 1048576) :
    Calls Tryz.prog 63 #[.string n, .string v] w fun e w' => e = .returned (.agg #[.string n, .string v]) ∧ Below w.heap.size w w' := by
  go_enter Tryz.func63, Tryz.ntmps63
  go_wp2_with fail
  refine (hclone_any n _ hn).mono ?_
  rintro e w1 ⟨rfl, hb1⟩
  simp only [World.size_alloc] at hb1
  go_wp2_with fail
  refine (hclone_any v _ hv).mono ?_
  rintro e w2 ⟨rfl, hb2⟩
  have hz1 : w.heap.size + 1 ≤ w1.heap.size := by have := hb1.size; rwa [World.size_alloc] at this
  obtain ⟨hz2, q0, q1, f0, f1, kb⟩ := hdr_free (hb1.trans (hb2.mono hz1))
  obtain ⟨r0, r1⟩ := two_set (v0 := .string n) (v1 := .string v) q0 q1
  clear hb1 hb2 hz1
  go_wp2_with fail
  exact bodyPost_ret (v := .agg #[.string n, .string v]) (by simp [results, Tryz.results63, go_sem, r0, r1]) rfl ⟨rfl, (kb.setCell (Nat.le_refl _) _).setCell (Nat.le_refl _) _⟩
end Go.Proofs.YtmnblligifgcjaaGreatDoor
/-
  The room of a TextResult behind a call.
-/
namespace Go.Proofs.YtmnblligifgcjaaGreatDoor
open Go.ChangeShapes Go.WideShapes Go.ChangeAt Go.RowKit
theorem text_room {w w1 : World} (hb : Below (w.heap.size + 1) (w.alloc (.cells #[.int .i64 0, .string ⟨#[]⟩] 29)) w1) :
    w.heap.size < w1.heap.size ∧ w1.cell? ⟨w.heap.size, 0, none⟩ = some (.int .i64 0) ∧ w1.cell? ⟨w.heap.size, 1, none⟩ = some (.string ⟨#[]⟩) ∧ w1.frozen? ⟨w.heap.size, 0, none⟩ = false ∧ w1.frozen? ⟨w.heap.size, 1, none⟩ = false ∧ Below w.heap.size w w1 := by
  have hz := hb.size
  simp only [World.size_alloc] at hz
  exact ⟨hz, by rw [hb.cell (p := ⟨w.heap.size, 0, none⟩) (Nat.lt_succ_self _)]; simp, by rw [hb.cell (p := ⟨w.heap.size, 1, none⟩) (Nat.lt_succ_self _)]; simp, by rw [hb.frozen (p := ⟨w.heap.size, 0, none⟩) (Nat.lt_succ_self _)]; simp, by rw [hb.frozen (p := ⟨w.heap.size, 1, none⟩) (Nat.lt_succ_self _)]; simp, ((Below.refl _ _).alloc (Nat.le_refl _) _).trans (hb.mono (Nat.le_succ _))⟩
end Go.Proofs.YtmnblligifgcjaaGreatDoor
/-
  What PackHeaders and its model answer.
-/
namespace Go.Proofs.YtmnblligifgcjaaGreatDoor
open Go.ChangeShapes Go.WideShapes Go.ChangeAt Go.RowKit Go.Sort
theorem HdsIn.ok {w : World} {a : Option Addr} {l : List Hdr} (h : HdsIn w a l) {k : Nat} {r : Hdr} (hr : l[k]? = some r) : ∃ b off, a = some ⟨b, off, none⟩ ∧ HeadsAt w b off l := by
  rcases h with h | h
  · subst h; simp at hr
  · exact h
theorem line_app (o n v : ByteArray) : (o ++ n ++ ⟨#[58, 32]⟩ ++ v ++ ⟨#[13, 10]⟩ : ByteArray).data.toList = o.data.toList ++ lineL ⟨n, v⟩ := by
  simp only [happ_list, lineL, List.append_assoc]
theorem line_app2 (o n v : ByteArray) : (o ++ (n ++ ⟨#[58, 32]⟩ ++ v ++ ⟨#[13, 10]⟩) : ByteArray).data.toList = o.data.toList ++ lineL ⟨n, v⟩ := by
  simp only [happ_list, lineL, List.append_assoc]
end Go.Proofs.YtmnblligifgcjaaGreatDoor
/-
  What firstPlaces and linesNamed answer.
-/
namespace Go.Proofs.YtmnblligifgcjaaGreatDoor
open Go.ChangeShapes Go.WideShapes Go.ChangeAt Go.RowKit Go.Sort
theorem firstAt_known {l : List Hdr} {r : Hdr} {j : Nat} (h : firstAt (lowS r.name) l = some j) (x : ByteArray) : firstAt x l = firstAt x (l ++ [r]) := by
  rw [firstAt_snoc]
  cases c : firstAt x l with
  | some i => rfl
  | none =>
    by_cases e : lowS r.name = x
    · subst e; rw [h] at c; cases c
    · simp only [if_neg e]
theorem firstAt_new {l : List Hdr} {r : Hdr} (h : firstAt (lowS r.name) l = none) (x : ByteArray) : (if x = lowS r.name then some l.length else firstAt x l) = firstAt x (l ++ [r]) := by
  rw [firstAt_snoc]
  by_cases e : x = lowS r.name
  · subst e
    rw [if_pos rfl, h]
    simp
  · rw [if_neg e]
    cases c : firstAt x l with
    | some i => rfl
    | none => simp only [if_neg (fun q => e (Eq.symm q))]
set_option maxRecDepth 100000 in
set_option maxHeartbeats 4000000 in
theorem firstPlaces_any (w : World) (a : Option Addr) (cap : Nat) (l : List Hdr) (h20 : l.length ≤ 20) (hz : ∀ (i : Nat) r, l[i]? = some r → r.name.size ≤ 64) (hi : HdsIn w a l) :
    Calls Tryz.prog 36 #[.slice a l.length cap] w fun e w' => e = .returned (.map (some w.heap.size)) ∧ NamesMap w' w.heap.size 20 (fun x => firstAt x l) ∧ Below w.heap.size w w' := by
  have HI : Hid (HdsIn w a l) := hi
  have HZ : Hid (∀ (i : Nat) r, l[i]? = some r → r.name.size ≤ 64) := hz
  clear hi hz
  generalize hn : l.length = n at *
  have HN : Hid (l.length = n) := hn
  clear hn
  have hmm := @run_makeMap Tryz.prog
  go_enter Tryz.func36, Tryz.ntmps36
  go_wp2_with fail
  go_loopw [12] (fun i wr => ∃ (k : Nat), k ≤ n ∧ i = .int .i64 k ∧ NamesMap wr w.heap.size k (fun x => firstAt x (l.take k)) ∧ Below w.heap.size w wr) (fun i _ => n - (intOf i).toNat)
  case atStart => exact ⟨0, Nat.zero_le _, rfl, NamesMap.made w, (Below.refl _ _).alloc (Nat.le_refl _) _⟩
  case round =>
    obtain ⟨k, hk, rfl, hm, hb⟩ := hrel
    have HM : Hid (NamesMap wr w.heap.size k (fun x => firstAt x (l.take k))) := hm
    clear hm
    by_cases hlt : k < n
    · obtain ⟨r, hr⟩ : ∃ r, l[k]? = some r := ⟨l[k]'(by have := HN.out; omega), List.getElem?_eq_getElem _⟩
      obtain ⟨b, off, rfl, hat⟩ := HI.out.ok hr
      obtain ⟨p1, p3⟩ := (hat.keep hb) k r hr
      have z1 := HZ.out k r hr
      have HK : Hid (l.take (k + 1) = l.take k ++ [r]) := take_hdr hr
      have hlk : Hid ((l.take k).length = k) := by show _ = _; rw [List.length_take]; have := HN.out; omega
      have gk : (k : Int) < n := by omega
      clear hr hat HI HZ
      have FS := fun j => @firstAt_known (l.take k) r j
      have FN := @firstAt_new (l.take k) r
      obtain ⟨rn, rv⟩ := r
      simp only at p1 p3 z1 FS FN
      rw [hlk.out] at FN
      have SN := fun w => smallName_any rn w (by omega)
      have sz := lowS_size rn
      generalize lowS rn = q at *
      have HSN : Hid (∀ w, Calls Tryz.prog 37 #[.string rn] w fun e w' => e = .returned (.string q) ∧ Below w.heap.size w w') := SN
      clear SN
      cases hq : firstAt q (l.take k) with
      | some j =>
        have HX : Hid (∀ x, firstAt x (l.take k) = firstAt x (l.take (k + 1))) := fun x => by rw [HK.out]; exact FS j hq x
        have HQ : Hid (firstAt q (l.take k) = some j) := hq
        clear hq FS FN HK
        go_wp2_with fail
        refine (HSN.out _).mono ?_
        rintro e w2 ⟨rfl, hb2⟩
        obtain ⟨_, _, _, kb⟩ := hdr_room hb2
        have HM2 : Hid (NamesMap w2 w.heap.size k (fun x => firstAt x (l.take k))) := HM.out.below kb
        have HB2 : Hid (Below w.heap.size w w2) := hb.trans (kb.mono hb.size)
        clear hb2 kb hb HM p1 p3
        go_wp2_with (at_lookup; refine wpList_look_some _ rfl _ _ rfl w.heap.size k _ rfl HM2.out q rfl (by omega) j HQ.out ?_)
        go_roundw
        case rel => exact ⟨k + 1, by omega, by go_num, NamesMap.of (by obtain ⟨D, h1, h2⟩ := HM2.out; exact ⟨D, h1.mono (Nat.le_succ _), h2⟩) HX.out, HB2.out⟩
        case measure => simp [intOf]; omega
      | none =>
        have HX : Hid (∀ x, (if x = q then some k else firstAt x (l.take k)) = firstAt x (l.take (k + 1))) := fun x => by rw [HK.out]; exact FN hq x
        have HQ : Hid (firstAt q (l.take k) = none) := hq
        clear hq FS FN HK
        go_wp2_with fail
        refine (HSN.out _).mono ?_
        rintro e w2 ⟨rfl, hb2⟩
        obtain ⟨_, _, _, kb⟩ := hdr_room hb2
        have HM2 : Hid (NamesMap w2 w.heap.size k (fun x => firstAt x (l.take k))) := HM.out.below kb
        have HB2 : Hid (Below w.heap.size w w2) := hb.trans (kb.mono hb.size)
        clear hb2 kb hb HM p1 p3
        go_wp2_with (first | (at_lookup; refine wpList_look_none _ rfl _ _ rfl w.heap.size k _ rfl HM2.out q rfl (by omega) HQ.out ?_) | (at_mapUpdate; refine wpList_put _ rfl _ _ _ rfl w.heap.size k _ rfl HM2.out (by omega) q rfl (by omega) k (by omega) rfl w.heap.size (Nat.le_refl _) ?_; intro w3 HM3 hb3))
        go_roundw
        case rel => exact ⟨k + 1, by omega, by go_num, HM3.of HX.out, HB2.out.trans hb3⟩
        case measure => simp [intOf]; omega
    · have HX : Hid (NamesMap wr w.heap.size 20 (fun x => firstAt x l)) := by
        have e : l.take k = l := List.take_of_length_le (by have := HN.out; omega)
        have := HM.out
        rw [e] at this
        obtain ⟨D, h1, h2⟩ := this
        exact ⟨D, h1.mono (by omega), h2⟩
      clear HM
      go_wp2_with fail
      go_ret
      exact ⟨rfl, HX.out, hb⟩
/-- What is left of the lines: those whose names the map has. -/
def keptH (p : ByteArray → Option Nat) (l : List Hdr) : List Hdr := l.filter fun r => (p (lowS r.name)).isSome
theorem keptH_yes {p : ByteArray → Option Nat} {r : Hdr} {i : Nat} (l : List Hdr) (h : p (lowS r.name) = some i) : keptH p (l ++ [r]) = keptH p l ++ [r] := by simp [keptH, h]
theorem keptH_no {p : ByteArray → Option Nat} {r : Hdr} (l : List Hdr) (h : p (lowS r.name) = none) : keptH p (l ++ [r]) = keptH p l := by simp [keptH, h]
theorem keptH_len (p : ByteArray → Option Nat) (l : List Hdr) : (keptH p l).length ≤ l.length := List.length_filter_le _ _
def KeptRes (base : Nat) (L : List Hdr) (e : Ending) (w : World) : Prop := ∃ v, e = .returned v ∧ OwnH w base v L
theorem KeptRes.mk {base : Nat} {L M : List Hdr} {w : World} {v : Value} (h : M = L) (ho : OwnH w base v L) : KeptRes base M (.returned v) w := ⟨v, rfl, h ▸ ho⟩
set_option maxRecDepth 100000 in
set_option maxHeartbeats 8000000 in
theorem linesNamed_any (w : World) (a : Option Addr) (cap : Nat) (l : List Hdr) (B : Nat) (p : ByteArray → Option Nat) (h20 : l.length ≤ 20) (hz : ∀ (i : Nat) r, l[i]? = some r → r.name.size ≤ 64 ∧ r.value.size ≤ 200) (hi : HdsIn w a l) (hm : NamesMap w B 20 p) :
    Calls Tryz.prog 38 #[.slice a l.length cap, .map (some B)] w fun e w' => KeptRes w.heap.size (keptH p l) e w' ∧ Below w.heap.size w w' := by
  have HI : Hid (HdsIn w a l) := hi
  have HZ : Hid (∀ (i : Nat) r, l[i]? = some r → r.name.size ≤ 64 ∧ r.value.size ≤ 200) := hz
  have HM : Hid (NamesMap w B 20 p) := hm
  clear hi hz hm
  generalize hn : l.length = n at *
  have HN : Hid (l.length = n) := hn
  clear hn
  go_enter Tryz.func38, Tryz.ntmps38
  go_wp2_with fail
  go_loopw [5, 12] (fun v i wr => ∃ (k : Nat), k ≤ n ∧ i = .int .i64 k ∧ OwnH wr w.heap.size v (keptH p (l.take k)) ∧ Below w.heap.size w wr) (fun _ i _ => n - (intOf i).toNat)
  case atStart => exact ⟨0, Nat.zero_le _, rfl, OwnH.nil _ _, Below.refl _ _⟩
  case round =>
    obtain ⟨k, hk, rfl, ho, hb⟩ := hrel
    have HO : Hid (OwnH wr w.heap.size u5 (keptH p (l.take k))) := ho
    have hzw := hb.size
    clear ho
    by_cases hlt : k < n
    · obtain ⟨r, hr⟩ : ∃ r, l[k]? = some r := ⟨l[k]'(by have := HN.out; omega), List.getElem?_eq_getElem _⟩
      obtain ⟨b, off, rfl, hat⟩ := HI.out.ok hr
      obtain ⟨p1, p3⟩ := (hat.keep hb) k r hr
      obtain ⟨z1, z2⟩ := HZ.out k r hr
      have HK : Hid (l.take (k + 1) = l.take k ++ [r]) := take_hdr hr
      have hlk : (keptH p (l.take k)).length ≤ 20 := Nat.le_trans (keptH_len _ _) (by rw [List.length_take]; omega)
      have gk : (k : Int) < n := by omega
      have HMr : Hid (NamesMap wr B 20 p) := HM.out.below hb
      clear hr hat HI HZ
      have KY := fun i => @keptH_yes p r i (l.take k)
      have KN := @keptH_no p r (l.take k)
      obtain ⟨rn, rv⟩ := r
      simp only at p1 p3 z1 z2 KY KN
      have SN := fun w => smallName_any rn w (by omega)
      have sz := lowS_size rn
      generalize lowS rn = q at *
      have HSN : Hid (∀ w, Calls Tryz.prog 37 #[.string rn] w fun e w' => e = .returned (.string q) ∧ Below w.heap.size w w') := SN
      clear SN
      cases hq : p q with
      | none =>
        have HX : Hid (keptH p (l.take (k + 1)) = keptH p (l.take k)) := by show _ = _; rw [HK.out]; exact KN hq
        have HQ : Hid (p q = none) := hq
        clear hq KY KN HK
        generalize keptH p (l.take k) = L at *
        go_wp2_with fail
        refine (HSN.out _).mono ?_
        rintro e w2 ⟨rfl, hb2⟩
        obtain ⟨_, _, _, kb⟩ := hdr_room hb2
        have HM2 : Hid (NamesMap w2 B 20 p) := HMr.out.below kb
        have HO2 : Hid (OwnH w2 w.heap.size u5 L) := HO.out.below kb
        have HB2 : Hid (Below w.heap.size w w2) := hb.trans (kb.mono hb.size)
        clear hb2 kb hb HMr p1 p3 HO
        go_wp2_with (at_lookup; refine wpList_look_none _ rfl _ _ rfl B 20 p rfl HM2.out q rfl (by omega) HQ.out ?_)
        go_roundw
        case rel => exact ⟨k + 1, by omega, by go_num, by rw [HX.out]; exact HO2.out, HB2.out⟩
        case measure => simp [intOf]; omega
      | some j =>
        have HX : Hid (keptH p (l.take (k + 1)) = keptH p (l.take k) ++ [⟨rn, rv⟩]) := by show _ = _; rw [HK.out]; exact KY j hq
        have HQ : Hid (p q = some j) := hq
        clear hq KY KN HK
        generalize keptH p (l.take k) = L at *
        go_wp2_with fail
        refine (HSN.out _).mono ?_
        rintro e w2 ⟨rfl, hb2⟩
        obtain ⟨hz2, c0, c1, kb⟩ := hdr_room hb2
        have HM2 : Hid (NamesMap w2 B 20 p) := HMr.out.below kb
        have HO2 : Hid (OwnH w2 w.heap.size u5 L) := HO.out.below kb
        have HB2 : Hid (Below w.heap.size w w2) := hb.trans (kb.mono hb.size)
        clear hb2 kb hb HMr p1 p3 HO
        go_wp2_with (at_lookup; refine wpList_look_some _ rfl _ _ rfl B 20 p rfl HM2.out q rfl (by omega) j HQ.out ?_)
        refine (lineOf_any rn rv _ (by omega) (by omega)).mono ?_
        rintro e w3 ⟨rfl, hb3⟩
        have HO3 : Hid (OwnH w3 w.heap.size u5 L) := HO2.out.below hb3
        have HB3 : Hid (Below w.heap.size w w3) := HB2.out.trans (hb3.mono HB2.out.size)
        have hz3 := HB3.out.size
        clear hb3 HM2 HO2 HB2 c0 c1
        go_wp2_with (at_builtin; refine wpList_append_hdr _ rfl (.tmp 25) (.tmp 31) rfl w.heap.size _ L rn rv rfl rfl HO3.out (by omega) hz3 ?_; intro v4 w4 HO4 hb4 hz4 hk4)
        go_roundw
        case rel => exact ⟨k + 1, by omega, by go_num, by rw [HX.out]; exact HO4, HB3.out.trans hb4⟩
        case measure => simp [intOf]; omega
    · have HX : Hid (keptH p l = keptH p (l.take k)) := by
        show _ = _
        rw [List.take_of_length_le (by have := HN.out; omega)]
      go_wp2_with fail
      go_ret
      exact ⟨KeptRes.mk HX.out HO.out, hb⟩
end Go.Proofs.YtmnblligifgcjaaGreatDoor
/-
  What DropHeader and its model answer.
-/
namespace Go.Proofs.YtmnblligifgcjaaGreatDoor
open Go.ChangeShapes Go.WideShapes Go.ChangeAt Go.RowKit Go.Sort
/-- A result: a code and head lines in memory of the call's own. -/
def HRes (c : Int) (L : List Hdr) (base : Nat) (e : Ending) (w : World) : Prop := ∃ v, e = .returned (.agg #[.int .i64 c, v]) ∧ OwnH w base v L
theorem HRes.mk {c d : Int} {L M : List Hdr} {base : Nat} {w : World} {v : Value} (h : c = d ∧ L = M) (ho : OwnH w base v M) : HRes c L base (.returned (.agg #[.int .i64 d, v])) w := ⟨v, by rw [h.1], by rw [h.2]; exact ho⟩
theorem ownH_set {w : World} {base b o : Nat} {v u : Value} {l : List Hdr} (h : OwnH w base v l) (hb : b < base) : OwnH (w.setCell ⟨b, o, none⟩ u) base v l := by
  obtain ⟨h1, h2⟩ := h
  refine ⟨h1, ?_⟩
  rcases h2 with h2 | ⟨g, c, cur, e, hg, hh, hrest⟩
  · exact .inl h2
  · exact .inr ⟨g, c, cur, e, hg, by rw [RowKit.Below.heap_setCell _ _ _ _ (by show g ≠ b; omega)]; exact hh, hrest⟩
theorem heads_room {w w1 : World} (hb : Below (w.heap.size + 1) (w.alloc (.cells #[.int .i64 0, .slice none 0 0] 38)) w1) :
    w.heap.size < w1.heap.size ∧ w1.cell? ⟨w.heap.size, 0, none⟩ = some (.int .i64 0) ∧ w1.cell? ⟨w.heap.size, 1, none⟩ = some (.slice none 0 0) ∧ w1.frozen? ⟨w.heap.size, 0, none⟩ = false ∧ w1.frozen? ⟨w.heap.size, 1, none⟩ = false ∧ Below w.heap.size w w1 := by
  have hz := hb.size
  simp only [World.size_alloc] at hz
  exact ⟨hz, by rw [hb.cell (p := ⟨w.heap.size, 0, none⟩) (Nat.lt_succ_self _)]; simp, by rw [hb.cell (p := ⟨w.heap.size, 1, none⟩) (Nat.lt_succ_self _)]; simp, by rw [hb.frozen (p := ⟨w.heap.size, 0, none⟩) (Nat.lt_succ_self _)]; simp, by rw [hb.frozen (p := ⟨w.heap.size, 1, none⟩) (Nat.lt_succ_self _)]; simp, ((Below.refl _ _).alloc (Nat.le_refl _) _).trans (hb.mono (Nat.le_succ _))⟩
theorem dropL_bad {l : List Hdr} {name : ByteArray} (h : askC l name ≠ 0) : dropL l name = [] := by unfold dropL; rw [if_neg h]
theorem dropL_ok {l : List Hdr} {name : ByteArray} (h : askC l name = 0) : dropL l name = dropH (lowS name) l := by unfold dropL; rw [if_pos h]
theorem dropL_len (l : List Hdr) (name : ByteArray) : (dropL l name).length ≤ 20 := by
  by_cases h : askC l name = 0
  · rw [dropL_ok h]
    have := (headsC_zero (askC_zero h).1).1
    exact Nat.le_trans (dropH_len _ _) this
  · rw [dropL_bad h]; simp
theorem asked {l : List Hdr} {name : ByteArray} (h : askC l name = 0) : l.length ≤ 20 ∧ (∀ (i : Nat) r, l[i]? = some r → r.name.size ≤ 64 ∧ r.value.size ≤ 200) ∧ name.size ≤ 64 := by
  obtain ⟨h0, hw⟩ := askC_zero h
  obtain ⟨h20, hf⟩ := headsC_zero h0
  exact ⟨h20, fun i r hr => by obtain ⟨x1, x2, _⟩ := faultH_zero (hf i r hr); exact ⟨hword_max x1, x2⟩, hword_max hw⟩
theorem keptH_drop (x : ByteArray) (l : List Hdr) : keptH (fun y => if y = x then none else firstAt y l) l = dropH x l := by
  unfold keptH dropH
  refine List.filter_congr fun r hr => ?_
  by_cases e : lowS r.name = x
  · simp [e]
  · simp only [e, not_false_eq_true, decide_true]
    cases c : firstAt (lowS r.name) l with
    | some i => rfl
    | none => exact absurd rfl (firstAt_none c r hr)
set_option maxRecDepth 100000 in
set_option maxHeartbeats 4000000 in
theorem implDrop_any (w : World) (a : Option Addr) (cap : Nat) (l : List Hdr) (name : ByteArray) (hl : l.length ≤ 1048576) (hset : SetIs w) (hi : HdsIn w a l) :
    Calls Tryz.prog 14 #[.slice a l.length cap, .string name] w fun e w' => HRes (askC l name) (dropL l name) w.heap.size e w' ∧ Below w.heap.size w w' := by
  have HA : Hid (∀ W, Below w.heap.size w W → Calls Tryz.prog 35 #[.slice a l.length cap, .string name] W fun e w' => e = .returned (.int .i64 (askC l name)) ∧ Below W.heap.size W w') := fun W hb => namedFault_any W a cap l name hl (hset.below hb) (hi.keep hb)
  by_cases h0 : askC l name = 0
  · obtain ⟨h20, hz, hnm⟩ := asked h0
    have HP : Hid (∀ W, Below w.heap.size w W → Calls Tryz.prog 36 #[.slice a l.length cap] W fun e w' => e = .returned (.map (some W.heap.size)) ∧ NamesMap w' W.heap.size 20 (fun x => firstAt x l) ∧ Below W.heap.size W w') := fun W hb => firstPlaces_any W a cap l h20 (fun i r hr => (hz i r hr).1) (hi.keep hb)
    have HS : Hid (∀ W, Calls Tryz.prog 37 #[.string name] W fun e w' => e = .returned (.string (lowS name)) ∧ Below W.heap.size W w') := fun W => smallName_any name W (by omega)
    have HK : Hid (∀ W B, Below w.heap.size w W → NamesMap W B 20 (fun y => if y = lowS name then none else firstAt y l) → Calls Tryz.prog 38 #[.slice a l.length cap, .map (some B)] W fun e w' => KeptRes W.heap.size (dropL l name) e w' ∧ Below W.heap.size W w') := fun W B hb hm => by
      rw [dropL_ok h0, ← keptH_drop]
      exact linesNamed_any W a cap l B _ h20 hz (hi.keep hb) hm
    have sz := lowS_size name
    rw [h0] at HA ⊢
    clear hi hz h0 h20 hset
    generalize dropL l name = L at *
    generalize l.length = n at *
    generalize lowS name = q at *
    go_enter Tryz.func14, Tryz.ntmps14
    go_wp2_with fail
    refine (HA.out _ ((Below.refl _ _).alloc (Nat.le_refl _) _)).mono ?_
    rintro e w1 ⟨rfl, hb1⟩
    rw [World.size_alloc] at hb1
    have HB1 : Hid (Below (w.heap.size + 1) (w.alloc (.cells #[.int .i64 0, .slice none 0 0] 38)) w1) := hb1
    have hz1 : w.heap.size + 1 ≤ w1.heap.size := by have := hb1.size; rwa [World.size_alloc] at this
    clear hb1 HA
    go_wp2_with fail
    refine (HP.out _ (heads_room HB1.out).2.2.2.2.2).mono ?_
    rintro e w2 ⟨rfl, hm2, hb2⟩
    have HB2 : Hid (Below (w.heap.size + 1) (w.alloc (.cells #[.int .i64 0, .slice none 0 0] 38)) w2) := HB1.out.trans (hb2.mono hz1)
    have hz2 : w.heap.size + 1 ≤ w2.heap.size := Nat.le_trans hz1 hb2.size
    have HM2 : Hid (NamesMap w2 w1.heap.size 20 (fun x => firstAt x l)) := hm2
    clear hb2 HB1 hm2 HP
    generalize w1.heap.size = B at *
    clear w1
    go_wp2_with fail
    refine (HS.out _).mono ?_
    rintro e w3 ⟨rfl, hb3⟩
    have HB3 : Hid (Below (w.heap.size + 1) (w.alloc (.cells #[.int .i64 0, .slice none 0 0] 38)) w3) := HB2.out.trans (hb3.mono hz2)
    have hz3 : w.heap.size + 1 ≤ w3.heap.size := Nat.le_trans hz2 hb3.size
    have HM3 : Hid (NamesMap w3 B 20 (fun x => firstAt x l)) := HM2.out.below hb3
    clear hb3 HB2 HM2 HS hz2
    clear w2
    go_wp2_with (at_delete; refine wpList_del _ rfl _ _ rfl B 20 _ rfl HM3.out q rfl (by omega) (w.heap.size + 1) hz1 ?_; intro w4 HM4 hb4)
    have HB4 : Below (w.heap.size + 1) (w.alloc (.cells #[.int .i64 0, .slice none 0 0] 38)) w4 := HB3.out.trans hb4
    refine (HK.out _ _ (heads_room HB4).2.2.2.2.2 HM4).mono ?_
    rintro e w5 ⟨⟨v, rfl, ho⟩, hb5⟩
    have hz4 : w.heap.size + 1 ≤ w4.heap.size := by have := HB4.size; rwa [World.size_alloc] at this
    obtain ⟨hz5, q0, q1, f0, f1, kb⟩ := heads_room (HB4.trans (hb5.mono hz4))
    obtain ⟨va, vc, hv, _⟩ := ho.at
    generalize hn : L.length = vn at hv
    subst hv
    obtain ⟨r0, r1⟩ := two_set (v0 := .int .i64 0) (v1 := .slice va vn vc) q0 q1
    have KO : Hid (OwnH w5 (w.heap.size + 1) (.slice va vn vc) L) := ho.lower hz4
    clear hb5 HB4 HK ho hn HM4 HM3 HB3 hb4
    go_wp2_with fail
    exact bodyPost_ret (v := .agg #[.int .i64 0, .slice va vn vc]) (by simp [results, Tryz.results14, go_sem, r0, r1]) rfl ⟨HRes.mk ⟨rfl, rfl⟩ ((ownH_set (ownH_set KO.out (Nat.lt_succ_self _)) (Nat.lt_succ_self _)).lower (Nat.le_succ _)), (kb.setCell (Nat.le_refl _) _).setCell (Nat.le_refl _) _⟩
  · rw [dropL_bad h0]
    clear hi hset
    generalize askC l name = fc at *
    generalize l.length = n at *
    go_enter Tryz.func14, Tryz.ntmps14
    go_wp2_with fail
    refine (HA.out _ ((Below.refl _ _).alloc (Nat.le_refl _) _)).mono ?_
    rintro e w1 ⟨rfl, hb1⟩
    rw [World.size_alloc] at hb1
    obtain ⟨hz2, q0, q1, f0, f1, kb⟩ := heads_room hb1
    obtain ⟨r0, r1⟩ := two_set (v0 := .int .i64 fc) (v1 := .slice none 0 0) q0 q1
    clear hb1 HA
    go_wp2_with fail
    exact bodyPost_ret (v := .agg #[.int .i64 fc, .slice none 0 0]) (by simp [results, Tryz.results14, go_sem, r0, r1]) rfl ⟨HRes.mk ⟨rfl, rfl⟩ (OwnH.nil _ _), (kb.setCell (Nat.le_refl _) _).setCell (Nat.le_refl _) _⟩
end Go.Proofs.YtmnblligifgcjaaGreatDoor
/-
  What JoinHeader and its model answer.
-/
namespace Go.Proofs.YtmnblligifgcjaaGreatDoor
open Go.ChangeShapes Go.WideShapes Go.ChangeAt Go.RowKit Go.Sort
def anyV (vs : List ByteArray) : Bool := !vs.isEmpty
theorem anyV_snoc (vs : List ByteArray) (v : ByteArray) : anyV (vs ++ [v]) = true := by simp [anyV]
theorem hret_sb {a b : ByteArray} {c d : Bool} (h1 : a = b) (h2 : c = d) : Ending.returned (.tuple #[.string a, .bool c]) = .returned (.tuple #[.string b, .bool d]) := by rw [h1, h2]
set_option maxRecDepth 100000 in
set_option maxHeartbeats 8000000 in
theorem l4Join_any (w : World) (a : Option Addr) (cap : Nat) (l : List Hdr) (name : ByteArray) (h20 : l.length ≤ 20) (hz : ∀ (i : Nat) r, l[i]? = some r → r.name.size ≤ 64 ∧ r.value.size ≤ 200) (hnm : name.size ≤ 64) (hi : HdsIn w a l) :
    Calls Tryz.prog 59 #[.slice a l.length cap, .string name] w fun e w' => e = .returned (.tuple #[.string ⟨(hjoinL (valsOf (lowS name) l)).toArray⟩, .bool (anyV (valsOf (lowS name) l))]) ∧ Below w.heap.size w w' := by
  have HI : Hid (HdsIn w a l) := hi
  have HZ : Hid (∀ (i : Nat) r, l[i]? = some r → r.name.size ≤ 64 ∧ r.value.size ≤ 200) := hz
  clear hi hz
  generalize hn : l.length = n at *
  have HN : Hid (l.length = n) := hn
  clear hn
  go_enter Tryz.func59, Tryz.ntmps59
  go_wp2_with fail
  go_loopw [6, 7, 8] (fun v f i wr => ∃ (k : Nat) (o : ByteArray) (bf : Bool), k ≤ n ∧ i = .int .i64 k ∧ v = .string o ∧ f = .bool bf ∧ o.data.toList = hjoinL (valsOf (lowS name) (l.take k)) ∧ bf = anyV (valsOf (lowS name) (l.take k)) ∧ o.size ≤ k * 202 ∧ Below w.heap.size w wr) (fun _ _ i _ => n - (intOf i).toNat)
  case atStart => exact ⟨0, ⟨#[]⟩, false, Nat.zero_le _, rfl, rfl, rfl, rfl, rfl, Nat.zero_le _, Below.refl _ _⟩
  case round =>
    obtain ⟨k, o, bf, hk, rfl, rfl, rfl, ho, hbf, hos, hb⟩ := hrel
    have HO : Hid (o.data.toList = hjoinL (valsOf (lowS name) (l.take k))) := ho
    have HBF : Hid (bf = anyV (valsOf (lowS name) (l.take k))) := hbf
    clear ho hbf
    by_cases hlt : k < n
    · obtain ⟨r, hr⟩ : ∃ r, l[k]? = some r := ⟨l[k]'(by have := HN.out; omega), List.getElem?_eq_getElem _⟩
      obtain ⟨b, off, rfl, hat⟩ := HI.out.ok hr
      obtain ⟨p1, p3⟩ := (hat.keep hb) k r hr
      obtain ⟨z1, z2⟩ := HZ.out k r hr
      have HK : Hid (l.take (k + 1) = l.take k ++ [r]) := take_hdr hr
      have gk : (k : Int) < n := by omega
      clear hr hat HI HZ
      have KY := @valsOf_yes (lowS name) r (l.take k)
      have KN := @valsOf_no (lowS name) r (l.take k)
      obtain ⟨rn, rv⟩ := r
      simp only at p1 p3 z1 z2 KY KN
      have SA := fun w => l4Alike_any rn name w (by omega) (by omega)
      by_cases he : lowS rn = lowS name
      · have HX : Hid (valsOf (lowS name) (l.take (k + 1)) = valsOf (lowS name) (l.take k) ++ [rv]) := by show _ = _; rw [HK.out]; exact KY he
        have HSA : Hid (∀ w, Calls Tryz.prog 57 #[.string rn, .string name] w fun e w' => e = .returned (.bool true) ∧ Below w.heap.size w w') := by
          rw [show decide (lowS rn = lowS name) = true from by simpa using he] at SA
          exact SA
        have HY : Hid (anyV (valsOf (lowS name) (l.take (k + 1))) = true) := by show _ = _; rw [HX.out]; exact anyV_snoc _ _
        clear SA KY KN HK he
        cases bf
        · have HV : Hid (valsOf (lowS name) (l.take k) = []) := by
            show _ = _
            have := HBF.out
            simpa [anyV] using this.symm
          have HT : Hid ((o ++ rv : ByteArray).data.toList = hjoinL (valsOf (lowS name) (l.take (k + 1)))) := by
            show _ = _
            rw [HX.out, hjoinL_snoc, happ_list, HO.out, if_pos HV.out, List.append_nil]
          have HU : Hid ((o ++ rv : ByteArray).size ≤ (k + 1) * 202) := by
            show _ ≤ _
            rw [ByteArray.size_append]; omega
          have hoz : o.size ≤ 5000 := by omega
          clear HX HV HO HBF
          go_wp2_with fail
          refine (HSA.out _).mono ?_
          rintro e w2 ⟨rfl, hb2⟩
          have HB2 : Hid (Below w.heap.size w w2) := hb.trans (hb2.mono hb.size)
          have p1 := hkeep hb2 p1
          have p3 := hkeep hb2 p3
          clear hb2 hb
          go_wp2_with fail
          go_roundw
          case rel => exact ⟨k + 1, o ++ rv, true, by omega, by go_num, rfl, rfl, HT.out, HY.out.symm, HU.out, HB2.out⟩
          case measure => simp [intOf]; omega
        · have HV : Hid (¬ valsOf (lowS name) (l.take k) = []) := by
            have := HBF.out
            intro e
            rw [e] at this
            cases this
          have HT : Hid ((o ++ ⟨#[44, 32]⟩ ++ rv : ByteArray).data.toList = hjoinL (valsOf (lowS name) (l.take (k + 1)))) := by
            show _ = _
            rw [HX.out, hjoinL_snoc, happ_list, happ_list, HO.out, if_neg HV.out]
          have HU : Hid ((o ++ ⟨#[44, 32]⟩ ++ rv : ByteArray).size ≤ (k + 1) * 202) := by
            show _ ≤ _
            rw [ByteArray.size_append, ByteArray.size_append, show (⟨#[44, 32]⟩ : ByteArray).size = 2 from rfl]; omega
          have hoz : o.size ≤ 5000 := by omega
          clear HX HV HO HBF
          go_wp2_with fail
          refine (HSA.out _).mono ?_
          rintro e w2 ⟨rfl, hb2⟩
          have HB2 : Hid (Below w.heap.size w w2) := hb.trans (hb2.mono hb.size)
          have p1 := hkeep hb2 p1
          have p3 := hkeep hb2 p3
          clear hb2 hb
          go_wp2_with fail
          go_roundw
          case rel => exact ⟨k + 1, o ++ ⟨#[44, 32]⟩ ++ rv, true, by omega, by go_num, rfl, rfl, HT.out, HY.out.symm, HU.out, HB2.out⟩
          case measure => simp [intOf]; omega
      · have HX : Hid (valsOf (lowS name) (l.take (k + 1)) = valsOf (lowS name) (l.take k)) := by show _ = _; rw [HK.out]; exact KN he
        have HSA : Hid (∀ w, Calls Tryz.prog 57 #[.string rn, .string name] w fun e w' => e = .returned (.bool false) ∧ Below w.heap.size w w') := by
          rw [show decide (lowS rn = lowS name) = false from by simpa using he] at SA
          exact SA
        clear SA KY KN HK he
        go_wp2_with fail
        refine (HSA.out _).mono ?_
        rintro e w2 ⟨rfl, hb2⟩
        have HB2 : Hid (Below w.heap.size w w2) := hb.trans (hb2.mono hb.size)
        clear hb2 hb p1 p3
        go_wp2_with fail
        go_roundw
        case rel => exact ⟨k + 1, o, bf, by omega, by go_num, rfl, rfl, by rw [HX.out]; exact HO.out, by rw [HX.out]; exact HBF.out, by omega, HB2.out⟩
        case measure => simp [intOf]; omega
    · have ek : l.take k = l := List.take_of_length_le (by have := HN.out; omega)
      have HT : Hid ((⟨(hjoinL (valsOf (lowS name) l)).toArray⟩ : ByteArray) = o) := by
        show _ = _
        have := HO.out
        rw [ek] at this
        exact (hof_list this).symm
      have HF : Hid (anyV (valsOf (lowS name) l) = bf) := by
        have := HBF.out
        rw [ek] at this
        exact this.symm
      clear HO HBF ek
      go_wp2_with fail
      go_ret2
      exact ⟨hret_sb HT.out.symm HF.out.symm, hb⟩
end Go.Proofs.YtmnblligifgcjaaGreatDoor
/-
  What the model's RequestFault answers.
-/
namespace Go.Proofs.YtmnblligifgcjaaGreatDoor
open Go.ChangeShapes Go.WideShapes Go.ChangeAt Go.RowKit
def ltrI (c : Int) : Bool := (decide (97 ≤ c) && decide (c ≤ 122)) || (decide (65 ≤ c) && decide (c ≤ 90))
def digI (c : Int) : Bool := decide (48 ≤ c) && decide (c ≤ 57)
set_option maxHeartbeats 1000000 in
theorem l1Letter_any (c : Int) (w : World) :
    Calls Tryz.prog 80 #[.int .u8 c] w fun e w' => e = .returned (.bool (ltrI c)) ∧ w' = w := by
  have HE : Hid (ltrI c = ((decide (97 ≤ c) && decide (c ≤ 122)) || (decide (65 ≤ c) && decide (c ≤ 90)))) := rfl
  have KEY : Hid (∀ b : Bool, ltrI c = b → Ending.returned (.bool b) = .returned (.bool (ltrI c))) := fun b h => by rw [h]
  by_cases c3 : c < 65
  · have W : Hid (ltrI c = false) := by show _ = _; rw [HE.out]; simp; omega
    go_enter Tryz.func80, Tryz.ntmps80
    go_wp2
    go_ret
    exact ⟨KEY.out _ W.out, rfl⟩
  by_cases c4 : c ≤ 90
  · have W : Hid (ltrI c = true) := by show _ = _; rw [HE.out]; simp; omega
    have d1 : decide (c ≤ 90) = true := by simpa using c4
    go_enter Tryz.func80, Tryz.ntmps80
    go_wp2
    go_ret
    exact ⟨KEY.out _ W.out, rfl⟩
  have d4 : decide (c ≤ 90) = false := by simpa using c4
  by_cases c5 : c < 97
  · have W : Hid (ltrI c = false) := by show _ = _; rw [HE.out]; simp; omega
    go_enter Tryz.func80, Tryz.ntmps80
    go_wp2
    go_ret
    exact ⟨KEY.out _ W.out, rfl⟩
  by_cases c6 : c ≤ 122
  · have W : Hid (ltrI c = true) := by show _ = _; rw [HE.out]; simp; omega
    have d1 : decide (c ≤ 122) = true := by simpa using c6
    go_enter Tryz.func80, Tryz.ntmps80
    go_wp2
    go_ret
    exact ⟨KEY.out _ W.out, rfl⟩
  have d6 : decide (c ≤ 122) = false := by simpa using c6
  have W : Hid (ltrI c = false) := by show _ = _; rw [HE.out]; simp; omega
  go_enter Tryz.func80, Tryz.ntmps80
  go_wp2
  go_ret
  exact ⟨KEY.out _ W.out, rfl⟩
set_option maxHeartbeats 1000000 in
theorem l1Digit_any (c : Int) (w : World) :
    Calls Tryz.prog 81 #[.int .u8 c] w fun e w' => e = .returned (.bool (digI c)) ∧ w' = w := by
  have HE : Hid (digI c = (decide (48 ≤ c) && decide (c ≤ 57))) := rfl
  have KEY : Hid (∀ b : Bool, digI c = b → Ending.returned (.bool b) = .returned (.bool (digI c))) := fun b h => by rw [h]
  by_cases c3 : c < 48
  · have W : Hid (digI c = false) := by show _ = _; rw [HE.out]; simp; omega
    go_enter Tryz.func81, Tryz.ntmps81
    go_wp2
    go_ret
    exact ⟨KEY.out _ W.out, rfl⟩
  by_cases c4 : c ≤ 57
  · have W : Hid (digI c = true) := by show _ = _; rw [HE.out]; simp; omega
    have d1 : decide (c ≤ 57) = true := by simpa using c4
    go_enter Tryz.func81, Tryz.ntmps81
    go_wp2
    go_ret
    exact ⟨KEY.out _ W.out, rfl⟩
  have d4 : decide (c ≤ 57) = false := by simpa using c4
  have W : Hid (digI c = false) := by show _ = _; rw [HE.out]; simp; omega
  go_enter Tryz.func81, Tryz.ntmps81
  go_wp2
  go_ret
  exact ⟨KEY.out _ W.out, rfl⟩
theorem hostI_split (c : Int) : hostI c = (ltrI c || digI c || decide (c = 46) || decide (c = 45)) := rfl
set_option maxHeartbeats 4000000 in
theorem l5Host_mid (s : ByteArray) (w : World) (h1 : 1 ≤ s.size) (h2 : s.size ≤ 60) :
    Calls Tryz.prog 64 #[.string s] w fun e w' => e = .returned (.bool (allP hostI s.data.toList)) ∧ w' = w := by
  have g1 : ¬ (s.size : Int) < 1 := by omega
  have g2 : ¬ (60 : Int) < s.size := by omega
  go_enter Tryz.func64, Tryz.ntmps64
  go_wp2
  go_loop [3] (fun i => ∃ k : Nat, k ≤ s.size ∧ i = .int .i64 k ∧ allP hostI (s.data.toList.take k) = true) (fun i => s.size - (intOf i).toNat)
  case atStart => exact ⟨0, Nat.zero_le _, rfl, rfl⟩
  case round =>
    obtain ⟨k, hk, rfl, hall⟩ := hrel
    by_cases hlt : k < s.size
    · have HY : Hid (hostI (s[k].toNat : Int) = true → allP hostI (s.data.toList.take (k + 1)) = true) := fun hw => by
        rw [take_snoc s k hlt, allP_snoc, hall, hw]; rfl
      have HN : Hid (hostI (s[k].toNat : Int) = false → allP hostI s.data.toList = false) := allP_not hostI s k hlt
      have HI := hostI_split (s[k].toNat : Int)
      have CL := l1Letter_any (s[k].toNat : Int) w
      have CD := l1Digit_any (s[k].toNat : Int) w
      clear hall
      cases hl : ltrI (s[k].toNat : Int)
      · rw [hl] at CL HI
        cases hd : digI (s[k].toNat : Int)
        · rw [hd] at CD HI
          by_cases e1 : (s[k].toNat : Int) = 46
          · have HA : Hid (allP hostI (s.data.toList.take (k + 1)) = true) := HY.out (by rw [HI]; simp [e1])
            have n1 : ((s[k].toNat : Int) != 46) = false := by rw [e1]; rfl
            clear HY HN HI hl hd e1
            go_wp2_with (first | (go_at_call 80; refine CL.mono ?_; rintro e w' ⟨rfl, rfl⟩) | (go_at_call 81; refine CD.mono ?_; rintro e w' ⟨rfl, rfl⟩))
            go_round
            case rel => exact ⟨k + 1, by omega, by go_num, HA.out⟩
            case measure => simp [intOf]; omega
          · by_cases e2 : (s[k].toNat : Int) = 45
            · have HA : Hid (allP hostI (s.data.toList.take (k + 1)) = true) := HY.out (by rw [HI]; simp [e2])
              have n1 : ((s[k].toNat : Int) != 46) = true := by simpa using e1
              have n2 : ((s[k].toNat : Int) != 45) = false := by rw [e2]; rfl
              clear HY HN HI hl hd e1 e2
              go_wp2_with (first | (go_at_call 80; refine CL.mono ?_; rintro e w' ⟨rfl, rfl⟩) | (go_at_call 81; refine CD.mono ?_; rintro e w' ⟨rfl, rfl⟩))
              go_round
              case rel => exact ⟨k + 1, by omega, by go_num, HA.out⟩
              case measure => simp [intOf]; omega
            · have HA : Hid (allP hostI s.data.toList = false) := HN.out (by rw [HI]; simp [e1, e2])
              have n1 : ((s[k].toNat : Int) != 46) = true := by simpa using e1
              have n2 : ((s[k].toNat : Int) != 45) = true := by simpa using e2
              clear HY HN HI hl hd e1 e2
              go_wp2_with (first | (go_at_call 80; refine CL.mono ?_; rintro e w' ⟨rfl, rfl⟩) | (go_at_call 81; refine CD.mono ?_; rintro e w' ⟨rfl, rfl⟩))
              go_ret
              exact ⟨ret_bool HA.out.symm, rfl⟩
        · rw [hd] at CD HI
          have HA : Hid (allP hostI (s.data.toList.take (k + 1)) = true) := HY.out (by rw [HI]; rfl)
          clear HY HN HI hl hd
          go_wp2_with (first | (go_at_call 80; refine CL.mono ?_; rintro e w' ⟨rfl, rfl⟩) | (go_at_call 81; refine CD.mono ?_; rintro e w' ⟨rfl, rfl⟩))
          go_round
          case rel => exact ⟨k + 1, by omega, by go_num, HA.out⟩
          case measure => simp [intOf]; omega
      · rw [hl] at CL HI
        have HA : Hid (allP hostI (s.data.toList.take (k + 1)) = true) := HY.out (by rw [HI]; rfl)
        clear HY HN HI hl
        go_wp2_with (first | (go_at_call 80; refine CL.mono ?_; rintro e w' ⟨rfl, rfl⟩) | (go_at_call 81; refine CD.mono ?_; rintro e w' ⟨rfl, rfl⟩))
        go_round
        case rel => exact ⟨k + 1, by omega, by go_num, HA.out⟩
        case measure => simp [intOf]; omega
    · have ek : s.data.toList.take k = s.data.toList := List.take_of_length_le (by simp; omega)
      rw [ek] at hall
      have HN : Hid (allP hostI s.data.toList = true) := hall
      clear ek hall
      go_wp2
      go_ret
      exact ⟨ret_bool HN.out.symm, rfl⟩
set_option maxHeartbeats 1000000 in
theorem l5Host_any (s : ByteArray) (w : World) :
    Calls Tryz.prog 64 #[.string s] w fun e w' => e = .returned (.bool (hostS s)) ∧ w' = w := by
  by_cases c1 : s.size < 1
  · rw [hostS_short s c1]
    have hh : (s.size : Int) < 1 := by omega
    go_enter Tryz.func64, Tryz.ntmps64
    go_wp2
    go_ret
    exact ⟨rfl, rfl⟩
  by_cases c2 : 60 < s.size
  · rw [hostS_long s c2]
    have hh : (60 : Int) < s.size := by omega
    have h1 : ¬ (s.size : Int) < 1 := by omega
    go_enter Tryz.func64, Tryz.ntmps64
    go_wp2
    go_ret
    exact ⟨rfl, rfl⟩
  rw [hostS_mid s (by omega) (by omega)]
  exact l5Host_mid s w (by omega) (by omega)
set_option maxHeartbeats 1000000 in
theorem l5PathByte_else (c : Int) (w : World) (h0 : 0 ≤ c) (h1 : c < 256) (hm : markI c.toNat = false) :
    Calls Tryz.prog 82 #[.int .u8 c] w fun e w' => e = .returned (.bool (pathI c)) ∧ w' = w := by
  have HP : pathI c = wordI c := by rw [pathI, hm]; rfl
  rw [HP]
  clear HP
  obtain ⟨n, rfl⟩ := Int.eq_ofNat_of_zero_le h0
  simp only [Int.toNat_natCast, markI, List.contains_eq_mem, List.mem_cons, List.not_mem_nil, or_false, decide_eq_false_iff_not, not_or] at hm
  obtain ⟨s0, s1, s2, s3, s4, s5, s6, s7, s8, s9⟩ := hm
  have t0 : ((n : Int) == 47) = false := by simp; omega
  have t1 : ((n : Int) == 63) = false := by simp; omega
  have t2 : ((n : Int) == 61) = false := by simp; omega
  have t3 : ((n : Int) == 38) = false := by simp; omega
  have t4 : ((n : Int) == 58) = false := by simp; omega
  have t5 : ((n : Int) == 64) = false := by simp; omega
  have t6 : ((n : Int) == 44) = false := by simp; omega
  have t7 : ((n : Int) == 59) = false := by simp; omega
  have t8 : ((n : Int) == 40) = false := by simp; omega
  have t9 : ((n : Int) == 41) = false := by simp; omega
  clear s0 s1 s2 s3 s4 s5 s6 s7 s8 s9
  generalize (n : Int) = c at *
  have C := wordByte_any c w h0 h1
  go_enter Tryz.func82, Tryz.ntmps82
  go_wp2_with fail
  refine C.mono ?_
  rintro e w' ⟨rfl, rfl⟩
  go_wp2_with fail
  go_ret
  exact ⟨rfl, rfl⟩
set_option maxHeartbeats 400000 in
theorem l5PathByte_47 (w : World) :
    Calls Tryz.prog 82 #[.int .u8 47] w fun e w' => e = .returned (.bool (pathI 47)) ∧ w' = w := by
  have W : pathI 47 = true := by decide +kernel
  rw [W]
  clear W
  go_enter Tryz.func82, Tryz.ntmps82
  go_wp2_with fail
  go_ret
  exact ⟨rfl, rfl⟩
set_option maxHeartbeats 400000 in
theorem l5PathByte_63 (w : World) :
    Calls Tryz.prog 82 #[.int .u8 63] w fun e w' => e = .returned (.bool (pathI 63)) ∧ w' = w := by
  have W : pathI 63 = true := by decide +kernel
  rw [W]
  clear W
  go_enter Tryz.func82, Tryz.ntmps82
  go_wp2_with fail
  go_ret
  exact ⟨rfl, rfl⟩
set_option maxHeartbeats 400000 in
theorem l5PathByte_61 (w : World) :
    Calls Tryz.prog 82 #[.int .u8 61] w fun e w' => e = .returned (.bool (pathI 61)) ∧ w' = w := by
  have W : pathI 61 = true := by decide +kernel
  rw [W]
  clear W
  go_enter Tryz.func82, Tryz.ntmps82
  go_wp2_with fail
  go_ret
  exact ⟨rfl, rfl⟩
set_option maxHeartbeats 400000 in
theorem l5PathByte_38 (w : World) :
    Calls Tryz.prog 82 #[.int .u8 38] w fun e w' => e = .returned (.bool (pathI 38)) ∧ w' = w := by
  have W : pathI 38 = true := by decide +kernel
  rw [W]
  clear W
  go_enter Tryz.func82, Tryz.ntmps82
  go_wp2_with fail
  go_ret
  exact ⟨rfl, rfl⟩
set_option maxHeartbeats 400000 in
theorem l5PathByte_58 (w : World) :
    Calls Tryz.prog 82 #[.int .u8 58] w fun e w' => e = .returned (.bool (pathI 58)) ∧ w' = w := by
  have W : pathI 58 = true := by decide +kernel
  rw [W]
  clear W
  go_enter Tryz.func82, Tryz.ntmps82
  go_wp2_with fail
  go_ret
  exact ⟨rfl, rfl⟩
set_option maxHeartbeats 400000 in
theorem l5PathByte_64 (w : World) :
    Calls Tryz.prog 82 #[.int .u8 64] w fun e w' => e = .returned (.bool (pathI 64)) ∧ w' = w := by
  have W : pathI 64 = true := by decide +kernel
  rw [W]
  clear W
  go_enter Tryz.func82, Tryz.ntmps82
  go_wp2_with fail
  go_ret
  exact ⟨rfl, rfl⟩
set_option maxHeartbeats 400000 in
theorem l5PathByte_44 (w : World) :
    Calls Tryz.prog 82 #[.int .u8 44] w fun e w' => e = .returned (.bool (pathI 44)) ∧ w' = w := by
  have W : pathI 44 = true := by decide +kernel
  rw [W]
  clear W
  go_enter Tryz.func82, Tryz.ntmps82
  go_wp2_with fail
  go_ret
  exact ⟨rfl, rfl⟩
set_option maxHeartbeats 400000 in
theorem l5PathByte_59 (w : World) :
    Calls Tryz.prog 82 #[.int .u8 59] w fun e w' => e = .returned (.bool (pathI 59)) ∧ w' = w := by
  have W : pathI 59 = true := by decide +kernel
  rw [W]
  clear W
  go_enter Tryz.func82, Tryz.ntmps82
  go_wp2_with fail
  go_ret
  exact ⟨rfl, rfl⟩
set_option maxHeartbeats 400000 in
theorem l5PathByte_40 (w : World) :
    Calls Tryz.prog 82 #[.int .u8 40] w fun e w' => e = .returned (.bool (pathI 40)) ∧ w' = w := by
  have W : pathI 40 = true := by decide +kernel
  rw [W]
  clear W
  go_enter Tryz.func82, Tryz.ntmps82
  go_wp2_with fail
  go_ret
  exact ⟨rfl, rfl⟩
set_option maxHeartbeats 400000 in
theorem l5PathByte_41 (w : World) :
    Calls Tryz.prog 82 #[.int .u8 41] w fun e w' => e = .returned (.bool (pathI 41)) ∧ w' = w := by
  have W : pathI 41 = true := by decide +kernel
  rw [W]
  clear W
  go_enter Tryz.func82, Tryz.ntmps82
  go_wp2_with fail
  go_ret
  exact ⟨rfl, rfl⟩
theorem l5PathByte_any (c : Int) (w : World) (h0 : 0 ≤ c) (h1 : c < 256) :
    Calls Tryz.prog 82 #[.int .u8 c] w fun e w' => e = .returned (.bool (pathI c)) ∧ w' = w := by
  cases h : markI c.toNat
  · exact l5PathByte_else c w h0 h1 h
  · obtain ⟨n, rfl⟩ := Int.eq_ofNat_of_zero_le h0
    simp only [Int.toNat_natCast, markI, List.contains_eq_mem, List.mem_cons, List.not_mem_nil, or_false, decide_eq_true_eq] at h
    rcases h with rfl | rfl | rfl | rfl | rfl | rfl | rfl | rfl | rfl | rfl
    · exact l5PathByte_47 w
    · exact l5PathByte_63 w
    · exact l5PathByte_61 w
    · exact l5PathByte_38 w
    · exact l5PathByte_58 w
    · exact l5PathByte_64 w
    · exact l5PathByte_44 w
    · exact l5PathByte_59 w
    · exact l5PathByte_40 w
    · exact l5PathByte_41 w
set_option maxHeartbeats 2000000 in
theorem l5Path_mid (s : ByteArray) (w : World) (h0 : 0 < s.size) (hf : (s[0].toNat : Int) = 47) (h2 : s.size ≤ 100) :
    Calls Tryz.prog 65 #[.string s] w fun e w' => e = .returned (.bool (allP pathI s.data.toList)) ∧ w' = w := by
  have g1 : ¬ (s.size : Int) < 1 := by omega
  have g2 : ¬ (100 : Int) < s.size := by omega
  go_enter Tryz.func65, Tryz.ntmps65
  go_wp2
  clear hf
  go_loop [3] (fun i => ∃ k : Nat, k ≤ s.size ∧ i = .int .i64 k ∧ allP pathI (s.data.toList.take k) = true) (fun i => s.size - (intOf i).toNat)
  case atStart => exact ⟨0, Nat.zero_le _, rfl, rfl⟩
  case round =>
    obtain ⟨k, hk, rfl, hall⟩ := hrel
    by_cases hlt : k < s.size
    · have hb : ((s[k].toNat : Nat) : Int) < 256 := by have := s[k].toNat_lt; omega
      have C := l5PathByte_any (s[k].toNat : Int) w (by omega) hb
      cases hw : pathI (s[k].toNat : Int)
      · have HN : Hid (allP pathI s.data.toList = false) := allP_not pathI s k hlt hw
        rw [hw] at C
        clear hall hw
        go_wp2_with fail
        refine C.mono ?_
        rintro e w' ⟨rfl, rfl⟩
        go_wp2_with fail
        go_ret
        exact ⟨ret_bool HN.out.symm, rfl⟩
      · have HA : Hid (allP pathI (s.data.toList.take (k + 1)) = true) := by
          show _ = _
          rw [take_snoc s k hlt, allP_snoc, hall, hw]; rfl
        rw [hw] at C
        clear hall hw
        go_wp2_with fail
        refine C.mono ?_
        rintro e w' ⟨rfl, rfl⟩
        go_wp2_with fail
        go_round
        case rel => exact ⟨k + 1, by omega, by go_num, HA.out⟩
        case measure => simp [intOf]; omega
    · have ek : s.data.toList.take k = s.data.toList := List.take_of_length_le (by simp; omega)
      rw [ek] at hall
      have HN : Hid (allP pathI s.data.toList = true) := hall
      clear ek hall
      go_wp2
      go_ret
      exact ⟨ret_bool HN.out.symm, rfl⟩
set_option maxHeartbeats 1000000 in
theorem l5Path_any (s : ByteArray) (w : World) :
    Calls Tryz.prog 65 #[.string s] w fun e w' => e = .returned (.bool (pathS s)) ∧ w' = w := by
  by_cases c1 : s.size < 1
  · rw [pathS_first s (by rw [head_none s c1]; simp)]
    have hh : (s.size : Int) < 1 := by omega
    go_enter Tryz.func65, Tryz.ntmps65
    go_wp2
    go_ret
    exact ⟨rfl, rfl⟩
  have h1 : ¬ (s.size : Int) < 1 := by omega
  by_cases c2 : 100 < s.size
  · rw [pathS_long s c2]
    have hh : (100 : Int) < s.size := by omega
    go_enter Tryz.func65, Tryz.ntmps65
    go_wp2
    go_ret
    exact ⟨rfl, rfl⟩
  have g2 : ¬ (100 : Int) < s.size := by omega
  have hd := head_get s (by omega)
  have g0 : 0 < s.size := by omega
  by_cases c3 : (s[0].toNat : Int) = 47
  · have e3 : s[0] = 47 := UInt8.toNat_inj.1 (by simpa using (by omega : s[0].toNat = 47))
    rw [pathS_mid s (by rw [hd, e3]) (by omega)]
    exact l5Path_mid s w (by omega) c3 (by omega)
  · rw [pathS_first s (by rw [hd]; intro e; exact c3 (by rw [Option.some.inj e]; rfl))]
    have c3' : ((s[0].toNat : Int) == 47) = false := by simpa using c3
    clear hd
    go_enter Tryz.func65, Tryz.ntmps65
    go_wp2
    go_ret
    exact ⟨rfl, rfl⟩
end Go.Proofs.YtmnblligifgcjaaGreatDoor
/-
  isHost and isPath: what they answer.
-/
namespace Go.Proofs.YtmnblligifgcjaaGreatDoor
open Go.ChangeShapes Go.WideShapes Go.ChangeAt Go.RowKit
theorem below_iter (w : World) (s : ByteArray) (pos : Nat) : Below w.heap.size w (w.iter s pos) := (Below.refl _ _).alloc (Nat.le_refl _) _
theorem rune_host (s : ByteArray) (pos : Nat) (h : pos < s.size) : hostI ((Utf8.decode s pos).1 : Int) = hostI (s[pos].toNat : Int) := by
  by_cases ha : (s[pos]'h).toNat < 128
  · rw [decode_ascii s pos h ha]
  · have := (decode_high s pos h (by omega)).1
    rw [hostI_big _ (by omega), hostI_big _ (by omega)]
theorem host_ascii {c : Nat} (h : hostI (c : Int) = true) : c < 128 := by
  by_cases k : c < 128
  · exact k
  · rw [hostI_big _ (by omega)] at h; cases h
set_option maxHeartbeats 1000000 in
theorem hasOnly_gen (p : Int → Bool) (hp : ∀ c, 128 ≤ c → p c = false) (s : ByteArray) (cs : Array Value) (w : World) (hs : s.size ≤ 1000) (hcs : ∀ i : Nat, i < 128 → cs[i]? = some (.bool (p (i : Int)))) :
    Calls Tryz.prog 74 #[.string s, .agg cs] w fun e w' => e = .returned (.bool (allP p s.data.toList)) ∧ Below w.heap.size w w' := by
  have hcell : ∀ i : Nat, i < 128 → (w.alloc (.cells cs 115)).cell? ⟨w.heap.size, i, none⟩ = some (.bool (p (i : Int))) := fun i hi => by
    rw [World.cell?_alloc_mark]; exact hcs i hi
  have HC : Hid (∀ i : Nat, i < 128 → (w.alloc (.cells cs 115)).cell? ⟨w.heap.size, i, none⟩ = some (.bool (p (i : Int)))) := hcell
  have HP : Hid (∀ c, 128 ≤ c → p c = false) := hp
  clear hcell hcs hp
  go_enter Tryz.func74, Tryz.ntmps74
  go_wp2
  go_loop [9] (fun i => ∃ k : Nat, k ≤ s.size ∧ i = .int .i64 k ∧ allP p (s.data.toList.take k) = true) (fun i => s.size - (intOf i).toNat)
  case atStart => exact ⟨0, Nat.zero_le _, rfl, rfl⟩
  case round =>
    obtain ⟨k, hk, rfl, hall⟩ := hrel
    by_cases hlt : k < s.size
    · have hb : ((s[k].toNat : Nat) : Int) < 256 := by have := s[k].toNat_lt; omega
      by_cases hbig : 128 ≤ (s[k].toNat : Int)
      · have HN : Hid (allP p s.data.toList = false) := allP_not p s k hlt (HP.out _ hbig)
        clear hall
        go_wp2
        go_ret
        exact ⟨ret_bool HN.out.symm, (Below.refl _ _).alloc (Nat.le_refl _) _⟩
      · have hc := HC.out s[k].toNat (by omega)
        cases hw : p (s[k].toNat : Int)
        · have HN : Hid (allP p s.data.toList = false) := allP_not p s k hlt hw
          rw [hw] at hc
          clear hall hw
          go_wp2
          go_ret
          exact ⟨ret_bool HN.out.symm, (Below.refl _ _).alloc (Nat.le_refl _) _⟩
        · have HA : Hid (allP p (s.data.toList.take (k + 1)) = true) := by
            show _ = _
            rw [take_snoc s k hlt, allP_snoc, hall, hw]; rfl
          rw [hw] at hc
          clear hall hw
          go_wp2
          go_round
          case rel => exact ⟨k + 1, by omega, by go_num, HA.out⟩
          case measure => simp [intOf]; omega
    · have ek : s.data.toList.take k = s.data.toList := List.take_of_length_le (by simp; omega)
      rw [ek] at hall
      have HN : Hid (allP p s.data.toList = true) := hall
      clear ek hall
      go_wp2
      go_ret
      exact ⟨ret_bool HN.out.symm, (Below.refl _ _).alloc (Nat.le_refl _) _⟩
end Go.Proofs.YtmnblligifgcjaaGreatDoor
/-
  pathBytes: the word bytes and ten marks; isPath.
-/
namespace Go.Proofs.YtmnblligifgcjaaGreatDoor
open Go.ChangeShapes Go.WideShapes Go.ChangeAt Go.RowKit
def marksS : ByteArray := ⟨#[47, 63, 61, 38, 58, 64, 44, 59, 40, 41]⟩
def marksN : List Nat := [47, 63, 61, 38, 58, 64, 44, 59, 40, 41]
def markAt (pos : Nat) : Nat := marksN.getD pos 0
theorem markAt_eq (pos : Nat) (h : pos < marksS.size) : (marksS[pos]'h).toNat = markAt pos := by
  have : pos < 10 := h
  match pos, this with
  | 0, _ | 1, _ | 2, _ | 3, _ | 4, _ | 5, _ | 6, _ | 7, _ | 8, _ | 9, _ => rfl
theorem markAt_lt (pos : Nat) : markAt pos < 128 := by
  by_cases h : pos < 10
  · match pos, h with
    | 0, _ | 1, _ | 2, _ | 3, _ | 4, _ | 5, _ | 6, _ | 7, _ | 8, _ | 9, _ => decide
  · unfold markAt
    rw [List.getD_eq_getElem?_getD, List.getElem?_eq_none (by simp [marksN]; omega)]
    decide
def pathAt (pos i : Nat) : Bool := (marksN.take pos).contains i || wordI (i : Int)
theorem pathAt_zero (i : Nat) : pathAt 0 i = wordI (i : Int) := rfl
theorem pathAt_end (i : Nat) : pathAt 10 i = pathI (i : Int) := rfl
theorem take_marks (pos i : Nat) (h : pos < 10) : (marksN.take (pos + 1)).contains i = ((marksN.take pos).contains i || i == markAt pos) := by
  have e : marksN.take (pos + 1) = marksN.take pos ++ [markAt pos] := by
    match pos, h with
    | 0, _ | 1, _ | 2, _ | 3, _ | 4, _ | 5, _ | 6, _ | 7, _ | 8, _ | 9, _ => rfl
  rw [e, Bool.eq_iff_iff]
  simp
theorem pathAt_same (pos : Nat) (h : pos < 10) : pathAt (pos + 1) (markAt pos) = true := by
  rw [pathAt, take_marks pos _ h]; simp
theorem pathAt_other (pos i : Nat) (h : pos < 10) (hi : i ≠ markAt pos) : pathAt (pos + 1) i = pathAt pos i := by
  rw [pathAt, take_marks pos _ h, beq_eq_false_iff_ne.2 hi, Bool.or_false]; rfl
structure PathW (w : World) (pos : Nat) (wr : World) : Prop where
  it : wr.heap[w.heap.size + 2]? = some (.stringIter marksS pos)
  b0 : wr.heap[w.heap.size]? = some (.cells Tryz.zeroCells115 115 (0, 0))
  b1 : ∃ cs, wr.heap[w.heap.size + 1]? = some (.cells cs 115 (0, 0)) ∧ cs.size = 128 ∧ ∀ i : Nat, i < 128 → cs[i]? = some (.bool (pathAt pos i))
  le : pos ≤ 10
  bel : Below w.heap.size w wr
theorem PathW.cell {w wr : World} {pos : Nat} (h : PathW w pos wr) (i : Nat) (hi : i < 128) : wr.cell? ⟨w.heap.size + 1, i, none⟩ = some (.bool (pathAt pos i)) ∧ wr.frozen? ⟨w.heap.size + 1, i, none⟩ = false := by
  obtain ⟨cs, h1, h2, h3⟩ := h.b1
  exact ⟨by simp [World.cell?, h1, h3 i hi], by simp [World.frozen?, h1]⟩
theorem PathW.next {w wr : World} {pos : Nat} (h : PathW w pos wr) (hp : pos < 10) : PathW w (pos + 1) ((wr.iterAt (w.heap.size + 2) marksS (pos + 1)).setCell ⟨w.heap.size + 1, markAt pos, none⟩ (.bool true)) := by
  obtain ⟨cs, h1, h2, h3⟩ := h.b1
  have o : ∀ k, k ≠ w.heap.size + 2 → (wr.iterAt (w.heap.size + 2) marksS (pos + 1)).heap[k]? = wr.heap[k]? := fun k hk => Lib.iterAt_other _ _ _ _ _ hk
  have h1' : (wr.iterAt (w.heap.size + 2) marksS (pos + 1)).heap[w.heap.size + 1]? = some (.cells cs 115 (0, 0)) := by rw [o _ (by omega)]; exact h1
  refine ⟨?_, ?_, ⟨_, heap_setCell_same _ _ _ _ _ _ h1', by simpa using h2, fun i hi => ?_⟩, by omega, ?_⟩
  · rw [heap_setCell_other _ _ _ _ (by simp)]; exact Lib.iterAt_heap _ _ _ _ _ h.it
  · rw [heap_setCell_other _ _ _ _ (by simp), o _ (by omega)]; exact h.b0
  · by_cases e : i = markAt pos
    · subst e
      rw [Array.getElem?_setIfInBounds_self_of_lt (by omega), pathAt_same pos hp]
    · rw [Array.getElem?_setIfInBounds_ne (by omega), h3 i hi, pathAt_other pos i hp e]
  · refine Below.setCell ?_ (by simp) _
    exact ⟨h.bel.os, h.bel.tape, h.bel.output, by simpa [World.iterAt] using h.bel.size, fun k hk => by rw [o k (by omega)]; exact h.bel.block k hk⟩
theorem zeroSet_size : (Tryz.zeroCells115).size = 128 := by kernel_rfl
theorem all_bools {cs : Array Value} {f : Nat → Bool} (hsz : cs.size = 128) (h : ∀ i : Nat, i < 128 → cs[i]? = some (.bool (f i))) : cs.all (·.oneCell') = true := by
  rw [Array.all_eq_true]
  intro i hi
  have e := h i (by omega)
  rw [Array.getElem?_eq_getElem hi] at e
  rw [Option.some.inj e]; rfl
theorem path_start {w : World} {cs : Array Value} (hsz : cs.size = 128) (hcs : ∀ i : Nat, i < 128 → cs[i]? = some (.bool (wordI (i : Int)))) :
    PathW w 0 ((((w.alloc (.cells Tryz.zeroCells115 115)).alloc (.cells Tryz.zeroCells115 115)).setRow (w.heap.size + 1) cs).iter marksS 0) := by
  have hz : ((w.alloc (.cells Tryz.zeroCells115 115)).alloc (.cells Tryz.zeroCells115 115)).heap.size = w.heap.size + 2 := by simp
  have h1 : ((w.alloc (.cells Tryz.zeroCells115 115)).alloc (.cells Tryz.zeroCells115 115)).heap[w.heap.size + 1]? = some (.cells Tryz.zeroCells115 115 (0, 0)) := by
    show ((w.heap.push _).push _)[w.heap.size + 1]? = _
    rw [Array.getElem?_push, if_pos (by simp)]
  have h0 : ((w.alloc (.cells Tryz.zeroCells115 115)).alloc (.cells Tryz.zeroCells115 115)).heap[w.heap.size]? = some (.cells Tryz.zeroCells115 115 (0, 0)) := by
    show ((w.heap.push _).push _)[w.heap.size]? = _
    rw [Array.getElem?_push, if_neg (by simp), Array.getElem?_push, if_pos rfl]
  have hold : ∀ k, k < w.heap.size → ((w.alloc (.cells Tryz.zeroCells115 115)).alloc (.cells Tryz.zeroCells115 115)).heap[k]? = w.heap[k]? := fun k hk => by
    rw [Below.heap_alloc _ _ _ (by simp; omega), Below.heap_alloc _ _ _ hk]
  have hb : Below w.heap.size w ((w.alloc (.cells Tryz.zeroCells115 115)).alloc (.cells Tryz.zeroCells115 115)) := ((Below.refl _ _).alloc (Nat.le_refl _) _).alloc (by simp) _
  generalize ((w.alloc (.cells Tryz.zeroCells115 115)).alloc (.cells Tryz.zeroCells115 115)) = W at *
  have hs : (W.setRow (w.heap.size + 1) cs).heap.size = w.heap.size + 2 := by rw [size_setRow]; exact hz
  refine ⟨?_, ?_, ⟨cs, ?_, hsz, fun i hi => by rw [hcs i hi, pathAt_zero]⟩, by omega, ?_⟩
  · rw [← hs]; exact World.iter_heap _ _ _
  · show ((W.setRow (w.heap.size + 1) cs).alloc _).heap[w.heap.size]? = _
    rw [Below.heap_alloc _ _ _ (by omega), setRow_other _ _ _ _ (by omega)]; exact h0
  · show ((W.setRow (w.heap.size + 1) cs).alloc _).heap[w.heap.size + 1]? = _
    rw [Below.heap_alloc _ _ _ (by omega)]; exact setRow_heap _ _ _ _ _ _ h1
  · exact (below_setRow hb (by omega) cs).alloc (by omega) _
end Go.Proofs.YtmnblligifgcjaaGreatDoor
/-
  errors.Is at a sentinel: the same one, none, another one.
-/
namespace Go.Proofs.YtmnblligifgcjaaGreatDoor
open Go.RowKit Go.Extern.Stop Go.Stop Go.Extern
noncomputable def erM (t : TypeId) : Sem Value := do Go.Extern.Rtype.noPackHeld "Comparable" t; pure (.bool (← typeInfo t).comparable)
end Go.Proofs.YtmnblligifgcjaaGreatDoor
/-
  The four errors of chapter 5 in memory: what the row's list gives of them; codeOf.
-/
namespace Go.Proofs.YtmnblligifgcjaaGreatDoor
open Go.ChangeShapes Go.WideShapes Go.ChangeAt Go.RowKit
theorem laid_sentinels4 {P : Program} {n0 n1 n2 n3 nm : String} {x0 x1 x2 x3 : List UInt8} {r : List (String × DataW Unit)} {W : World} {g0 g1 g2 g3 : Nat} {ti tp te ts : TypeId} {ms : Array (String × TypeId)} {f : Field}
    (h : laidMet P ((n0, .iface nm (.ptr (.agg [.lit (.string x0)]))) :: (n1, .iface nm (.ptr (.agg [.lit (.string x1)]))) :: (n2, .iface nm (.ptr (.agg [.lit (.string x2)]))) :: (n3, .iface nm (.ptr (.agg [.lit (.string x3)]))) :: r) W)
    (hg0 : P.globalNamed n0 = some g0) (ht0 : (P.globals[g0]?).map (·.type) = some ti) (hg1 : P.globalNamed n1 = some g1) (ht1 : (P.globals[g1]?).map (·.type) = some ti) (hg2 : P.globalNamed n2 = some g2) (ht2 : (P.globals[g2]?).map (·.type) = some ti) (hg3 : P.globalNamed n3 = some g3) (ht3 : (P.globals[g3]?).map (·.type) = some ti)
    (hi : P.underlying ti = some (.interface ms)) (hrow : ∀ u, P.typeName? 3 u = some nm → u = tp) (hp : P.underlying tp = some (.pointer te)) (he : P.underlying te = some (.struct #[f])) (hft : f.type = ts) (hfo : f.offset = 0) (hs : P.underlying ts = some .string) (hc : P.cellsOf te = 1) (hcs : P.cellsOf ts = 1) :
    ∃ a0 a1 a2 a3 : Addr, (W.var? P n0 = some #[.iface tp (.pointer (some a0))] ∧ W.var? P n1 = some #[.iface tp (.pointer (some a1))] ∧ W.var? P n2 = some #[.iface tp (.pointer (some a2))] ∧ W.var? P n3 = some #[.iface tp (.pointer (some a3))]) ∧
      (a0 ≠ a1 ∧ a0 ≠ a2 ∧ a0 ≠ a3 ∧ a1 ≠ a2 ∧ a1 ≠ a3 ∧ a2 ≠ a3) ∧
      (∃ c t, W.heap[a0.block]? = some (.cells c t (0, 0))) ∧ (∃ c t, W.heap[a1.block]? = some (.cells c t (0, 0))) ∧ (∃ c t, W.heap[a2.block]? = some (.cells c t (0, 0))) ∧ (∃ c t, W.heap[a3.block]? = some (.cells c t (0, 0))) := by
  obtain ⟨ps, ⟨g0', t0', cs0, f0, p0, q0, hg0', ht0', hv0, hd0, ⟨g1', t1', cs1, f1, p1, q1, hg1', ht1', hv1, hd1, ⟨g2', t2', cs2, f2, p2, q2, hg2', ht2', hv2, hd2, ⟨g3', t3', cs3, f3, p3, q3, hg3', ht3', hv3, hd3, _, e3⟩, e2⟩, e1⟩, e0⟩, hnd, hrows⟩ := h
  obtain rfl := Option.some.inj (hg0.symm.trans hg0')
  obtain rfl := Option.some.inj (hg1.symm.trans hg1')
  obtain rfl := Option.some.inj (hg2.symm.trans hg2')
  obtain rfl := Option.some.inj (hg3.symm.trans hg3')
  obtain rfl := Option.some.inj (ht0.symm.trans ht0')
  obtain rfl := Option.some.inj (ht1.symm.trans ht1')
  obtain rfl := Option.some.inj (ht2.symm.trans ht2')
  obtain rfl := Option.some.inj (ht3.symm.trans ht3')
  subst e3
  subst e2
  subst e1
  subst e0
  obtain ⟨l0⟩ := cs0
  obtain ⟨l1⟩ := cs1
  obtain ⟨l2⟩ := cs2
  obtain ⟨l3⟩ := cs3
  have ok0 : ∀ u v, l0 = [.iface u v] → Value.okWide P W .any 0 u v := fun u v e => by
    subst e
    exact (hrows g0 0 (by simp [MemPlace.row])).2 u v (by simpa using World.var?_cell hg0' hv0 0)
  have ok1 : ∀ u v, l1 = [.iface u v] → Value.okWide P W .any 0 u v := fun u v e => by
    subst e
    exact (hrows g1 0 (by simp [MemPlace.row])).2 u v (by simpa using World.var?_cell hg1' hv1 0)
  have ok2 : ∀ u v, l2 = [.iface u v] → Value.okWide P W .any 0 u v := fun u v e => by
    subst e
    exact (hrows g2 0 (by simp [MemPlace.row])).2 u v (by simpa using World.var?_cell hg2' hv2 0)
  have ok3 : ∀ u v, l3 = [.iface u v] → Value.okWide P W .any 0 u v := fun u v e => by
    subst e
    exact (hrows g3 0 (by simp [MemPlace.row])).2 u v (by simpa using World.var?_cell hg3' hv3 0)
  obtain ⟨a0, s0, rfl, hc0, hs0, hz0, rfl⟩ := errorString_of_trod hi hrow hp he hft hfo hs hc hcs hd0 ok0
  obtain ⟨a1, s1, rfl, hc1, hs1, hz1, rfl⟩ := errorString_of_trod hi hrow hp he hft hfo hs hc hcs hd1 ok1
  obtain ⟨a2, s2, rfl, hc2, hs2, hz2, rfl⟩ := errorString_of_trod hi hrow hp he hft hfo hs hc hcs hd2 ok2
  obtain ⟨a3, s3, rfl, hc3, hs3, hz3, rfl⟩ := errorString_of_trod hi hrow hp he hft hfo hs hc hcs hd3 ok3
  have b0 := (hrows a0.block a0.off (by simp [MemPlace.row])).1
  have b1 := (hrows a1.block a1.off (by simp [MemPlace.row])).1
  have b2 := (hrows a2.block a2.off (by simp [MemPlace.row])).1
  have b3 := (hrows a3.block a3.off (by simp [MemPlace.row])).1
  refine ⟨a0, a1, a2, a3, ⟨hv0, hv1, hv2, hv3⟩, ⟨?_, ?_, ?_, ?_, ?_, ?_⟩, b0, b1, b2, b3⟩
  all_goals (rintro rfl; simp [MemPlace.row] at hnd)
structure Errs where
  u : Addr
  m : Addr
  b : Addr
  d : Addr
end Go.Proofs.YtmnblligifgcjaaGreatDoor
/-
  codeOf and headError.
-/
namespace Go.Proofs.YtmnblligifgcjaaGreatDoor
open Go.ChangeShapes Go.WideShapes Go.ChangeAt Go.RowKit
end Go.Proofs.YtmnblligifgcjaaGreatDoor
/-
  What JoinHeader answers.
-/
namespace Go.Proofs.YtmnblligifgcjaaGreatDoor
open Go.ChangeShapes Go.WideShapes Go.ChangeAt Go.RowKit Go.Sort
theorem HeadsAt.drop {w : World} {b off : Nat} {l : List Hdr} (h : HeadsAt w b off l) (i : Nat) : HeadsAt w b (off + i * 2) (l.drop i) := by
  intro j r hr
  rw [List.getElem?_drop] at hr
  obtain ⟨a, c⟩ := h (i + j) r hr
  rw [show off + (i + j) * 2 = off + i * 2 + j * 2 from by omega] at a c
  exact ⟨a, c⟩
theorem hjoinL_len (vs : List ByteArray) (h : ∀ v ∈ vs, v.size ≤ 200) : (hjoinL vs).length ≤ vs.length * 202 := by
  unfold hjoinL
  cases vs with
  | nil => simp [Lib.join, List.intercalate]
  | cons x r =>
    rw [List.map_cons, Lib.join_length]
    have hl : ∀ (l : List ByteArray), (∀ v ∈ l, v.size ≤ 200) → Lib.lens (l.map (·.data.toList)) ≤ l.length * 200 := by
      intro l
      induction l with
      | nil => intro _; simp [Lib.lens]
      | cons y l ih =>
        intro hy
        have h1 := ih fun v hv => hy v (by simp [hv])
        have h2 := hy y (by simp)
        have h3 : y.data.toList.length = y.size := by simp
        simp only [List.map_cons, Lib.lens, List.length_cons, List.sum_cons] at h1 ⊢
        omega
    have := hl (x :: r) h
    rw [List.map_cons] at this
    simp only [List.length_cons, List.length_map, List.length_nil] at this ⊢
    omega
theorem valsOf_mem {x : ByteArray} {l : List Hdr} (hz : ∀ (i : Nat) r, l[i]? = some r → r.name.size ≤ 64 ∧ r.value.size ≤ 200) : ∀ v ∈ valsOf x l, v.size ≤ 200 := by
  intro v hv
  obtain ⟨r, hr, rfl⟩ := List.mem_map.1 hv
  obtain ⟨i, hi⟩ := List.getElem?_of_mem (List.mem_filter.1 hr).1
  exact (hz i r hi).2
theorem valsOf_len (x : ByteArray) (l : List Hdr) : (valsOf x l).length ≤ l.length := by
  unfold valsOf
  rw [List.length_map]
  exact List.length_filter_le _ _
set_option maxRecDepth 100000 in
set_option maxHeartbeats 8000000 in
theorem implJoin_found (w : World) (b off cap : Nat) (l : List Hdr) (name : ByteArray) (i : Nat) (h0 : askC l name = 0) (hf : firstAt (lowS name) l = some i) (hcap : l.length ≤ cap) (hset : SetIs w) (hat : HeadsAt w b off l) :
    Calls Tryz.prog 25 #[.slice (some ⟨b, off, none⟩) l.length cap, .string name] w fun e w' => e = .returned (.agg #[.int .i64 0, .string ⟨(hjoinL (valsOf (lowS name) l)).toArray⟩]) ∧ Below w.heap.size w w' := by
  obtain ⟨h20, hz, hnm⟩ := asked h0
  have hi : HdsIn w (some ⟨b, off, none⟩) l := .inr ⟨b, off, rfl, hat⟩
  have HA : Hid (∀ W, Below w.heap.size w W → Calls Tryz.prog 35 #[.slice (some ⟨b, off, none⟩) l.length cap, .string name] W fun e w' => e = .returned (.int .i64 0) ∧ Below W.heap.size W w') := fun W hb => by
    have := namedFault_any W (some ⟨b, off, none⟩) cap l name (by omega) (hset.below hb) (hi.keep hb)
    rw [h0] at this
    exact this
  have HP : Hid (∀ W, Below w.heap.size w W → Calls Tryz.prog 36 #[.slice (some ⟨b, off, none⟩) l.length cap] W fun e w' => e = .returned (.map (some W.heap.size)) ∧ NamesMap w' W.heap.size 20 (fun x => firstAt x l) ∧ Below W.heap.size W w') := fun W hb => firstPlaces_any W _ cap l h20 (fun i r hr => (hz i r hr).1) (hi.keep hb)
  have HS : Hid (∀ W, Calls Tryz.prog 37 #[.string name] W fun e w' => e = .returned (.string (lowS name)) ∧ Below W.heap.size W w') := fun W => smallName_any name W (by omega)
  have hil := firstAt_lt hf
  have HV : Hid (valsOf (lowS name) (l.drop i) = valsOf (lowS name) l) := (valsOf_drop hf).1
  have HD : Hid (HeadsAt w b (off + i * 2) (l.drop i)) := hat.drop i
  have HZ : Hid (∀ (j : Nat) r, (l.drop i)[j]? = some r → r.name.size ≤ 64 ∧ r.value.size ≤ 200) := fun j r hr => by
    rw [List.getElem?_drop] at hr
    exact hz _ r hr
  have HF : Hid (firstAt (lowS name) l = some i) := hf
  have sz := lowS_size name
  have hJL : (hjoinL (valsOf (lowS name) l)).length ≤ 4040 := by
    have h1 := hjoinL_len _ (valsOf_mem (x := lowS name) hz)
    have h2 := valsOf_len (lowS name) l
    have h3 : (valsOf (lowS name) l).length * 202 ≤ 20 * 202 := Nat.mul_le_mul_right _ (by omega)
    omega
  have hVL : (valsOf (lowS name) l).length ≤ 20 := Nat.le_trans (valsOf_len _ _) h20
  generalize hM : l.drop i = M at *
  have hMl : M.length = l.length - i := by rw [← hM, List.length_drop]
  clear hi hz h0 hset hat hf hM
  generalize lowS name = q at *
  have hni : i < l.length := hil
  generalize hn : l.length = n at *
  have HN : Hid (M.length = n - i) := hMl
  clear hMl hil hn
  go_enter Tryz.func25, Tryz.ntmps25
  go_wp2_with fail
  refine (HA.out _ ((Below.refl _ _).alloc (Nat.le_refl _) _)).mono ?_
  rintro e w1 ⟨rfl, hb1⟩
  rw [World.size_alloc] at hb1
  have HB1 : Hid (Below (w.heap.size + 1) (w.alloc (.cells #[.int .i64 0, .string ⟨#[]⟩] 29)) w1) := hb1
  have hz1 : w.heap.size + 1 ≤ w1.heap.size := by have := hb1.size; rwa [World.size_alloc] at this
  clear hb1 HA
  go_wp2_with fail
  refine (HS.out _).mono ?_
  rintro e w2 ⟨rfl, hb2⟩
  have HB2 : Hid (Below (w.heap.size + 1) (w.alloc (.cells #[.int .i64 0, .string ⟨#[]⟩] 29)) w2) := HB1.out.trans (hb2.mono hz1)
  have hz2 : w.heap.size + 1 ≤ w2.heap.size := Nat.le_trans hz1 hb2.size
  clear hb2 HB1 HS hz1
  go_wp2_with fail
  refine (HP.out _ (text_room HB2.out).2.2.2.2.2).mono ?_
  rintro e w3 ⟨rfl, hm3, hb3⟩
  have HB3 : Hid (Below (w.heap.size + 1) (w.alloc (.cells #[.int .i64 0, .string ⟨#[]⟩] 29)) w3) := HB2.out.trans (hb3.mono hz2)
  have hz3 : w.heap.size + 1 ≤ w3.heap.size := Nat.le_trans hz2 hb3.size
  have HM3 : Hid (NamesMap w3 w2.heap.size 20 (fun x => firstAt x l)) := hm3
  clear hb3 HB2 hm3 HP hz2
  generalize w2.heap.size = B at *
  try clear w2
  have gi0 : (0 : Int) ≤ (i : Int) := by omega
  have gi1 : (i : Int) ≤ (n : Int) := by omega
  have gi2 : (n : Int) ≤ (cap : Int) := by omega
  go_wp2_with (at_lookup; refine wpList_look_some _ rfl _ _ rfl B 20 _ rfl HM3.out q rfl (by omega) i HF.out ?_)
  clear HM3
  have hm20 : n - i ≤ 20 := by omega
  generalize n - i = m at *
  go_loopw [9, 35] (fun v j wr => ∃ (k : Nat), k ≤ m ∧ j = .int .i64 k ∧ OwnS wr (w.heap.size + 1) v (valsOf q (M.take k)) ∧ Below (w.heap.size + 1) (w.alloc (.cells #[.int .i64 0, .string ⟨#[]⟩] 29)) wr) (fun _ j _ => m - (intOf j).toNat)
  case atStart => exact ⟨0, Nat.zero_le _, rfl, OwnS.nil _ _, HB3.out⟩
  case round =>
    obtain ⟨k, hk, rfl, ho, hb⟩ := hrel
    have HO : Hid (OwnS wr (w.heap.size + 1) u9 (valsOf q (M.take k))) := ho
    have hz : w.heap.size + 1 ≤ wr.heap.size := by have := hb.size; rwa [World.size_alloc] at this
    have hwr : Below w.heap.size w wr := ((Below.refl _ _).alloc (Nat.le_refl _) _).trans (hb.mono (Nat.le_succ _))
    clear ho HB3
    by_cases hlt : k < m
    · obtain ⟨r, hr⟩ : ∃ r, M[k]? = some r := ⟨M[k]'(by have := HN.out; omega), List.getElem?_eq_getElem _⟩
      obtain ⟨p1, p3⟩ := (HD.out.keep hwr) k r hr
      obtain ⟨z1, z2⟩ := HZ.out k r hr
      have HK : Hid (M.take (k + 1) = M.take k ++ [r]) := take_hdr hr
      have hlk : (valsOf q (M.take k)).length ≤ 20 := Nat.le_trans (valsOf_len _ _) (by rw [List.length_take]; omega)
      have gk : (k : Int) < m := by omega
      clear hr HD HZ hwr
      have KY := @valsOf_yes q r (M.take k)
      have KN := @valsOf_no q r (M.take k)
      obtain ⟨rn, rv⟩ := r
      simp only at p1 p3 z1 z2 KY KN
      have SN := fun w => smallName_any rn w (by omega)
      have HSN : Hid (∀ w, Calls Tryz.prog 37 #[.string rn] w fun e w' => e = .returned (.string (lowS rn)) ∧ Below w.heap.size w w') := SN
      clear SN
      by_cases he : lowS rn = q
      · have HX : Hid (valsOf q (M.take (k + 1)) = valsOf q (M.take k) ++ [rv]) := by show _ = _; rw [HK.out]; exact KY he
        rw [he] at HSN
        clear KY KN HK he
        generalize valsOf q (M.take k) = L at *
        go_wp2_with fail
        refine (HSN.out _).mono ?_
        rintro e w4 ⟨rfl, hb4⟩
        obtain ⟨hz4, c0, c1, kb⟩ := hdr_room hb4
        have HO4 : Hid (OwnS w4 (w.heap.size + 1) u9 L) := HO.out.below kb
        have HB4 : Hid (Below (w.heap.size + 1) (w.alloc (.cells #[.int .i64 0, .string ⟨#[]⟩] 29)) w4) := hb.trans (kb.mono hz)
        have hz5 : w.heap.size + 1 ≤ w4.heap.size := Nat.le_trans hz kb.size
        clear hb4 kb hb HO p1 p3
        go_wp2_with (at_builtin; refine wpList_append_str _ rfl (.tmp 44) (.tmp 47) rfl (w.heap.size + 1) _ L rv rfl rfl HO4.out (by omega) hz5 ?_; intro v6 w6 HO6 hb6 hz6)
        go_roundw
        case rel => exact ⟨k + 1, by omega, by go_num, by rw [HX.out]; exact HO6, HB4.out.trans hb6⟩
        case measure => simp [intOf]; omega
      · have HX : Hid (valsOf q (M.take (k + 1)) = valsOf q (M.take k)) := by show _ = _; rw [HK.out]; exact KN he
        have hq := hstr_ne he
        clear KY KN HK he
        generalize lowS rn = q2 at *
        generalize valsOf q (M.take k) = L at *
        go_wp2_with fail
        refine (HSN.out _).mono ?_
        rintro e w4 ⟨rfl, hb4⟩
        obtain ⟨hz4, c0, c1, kb⟩ := hdr_room hb4
        have HO4 : Hid (OwnS w4 (w.heap.size + 1) u9 L) := HO.out.below kb
        have HB4 : Hid (Below (w.heap.size + 1) (w.alloc (.cells #[.int .i64 0, .string ⟨#[]⟩] 29)) w4) := hb.trans (kb.mono hz)
        clear hb4 kb hb HO p1 p3
        go_wp2_with fail
        go_roundw
        case rel => exact ⟨k + 1, by omega, by go_num, by rw [HX.out]; exact HO4.out, HB4.out⟩
        case measure => simp [intOf]; omega
    · have ek : M.take k = M := List.take_of_length_le (by have := HN.out; omega)
      have HO2 := HO.out
      rw [ek, HV.out] at HO2
      have HJ := join_own wr _ u9 _ HO2 (by omega) (by show (hjoinL (valsOf q l)).length ≤ _; omega)
      have HT : Hid ((⟨(hjoinL (valsOf q l)).toArray⟩ : ByteArray).size ≤ 4040) := by show _ ≤ _; simpa [ByteArray.size] using hJL
      have HJ2 : Hid (Calls Tryz.prog 51 #[u9, .string ⟨#[44, 32]⟩] wr fun e w' => e = .returned (.string ⟨(hjoinL (valsOf q l)).toArray⟩) ∧ Below wr.heap.size wr w') := HJ
      obtain ⟨jt, HJT⟩ : ∃ jt, Hid ((⟨(hjoinL (valsOf q l)).toArray⟩ : ByteArray) = jt) := ⟨_, rfl⟩
      rw [HJT.out] at HT HJ2
      have hjt := HT.out
      have HBr : Hid (Below (w.heap.size + 1) (w.alloc (.cells #[.int .i64 0, .string ⟨#[]⟩] 29)) wr) := hb
      clear HT HJ HO2 HO ek hwr hb HD HZ
      go_wp2_with fail
      refine HJ2.out.mono ?_
      rintro e w4 ⟨rfl, hb4⟩
      go_wp2_with fail
      refine (hclone_any jt _ (by omega)).mono ?_
      rintro e w5 ⟨rfl, hb5⟩
      obtain ⟨hz6, q0, q1, f0, f1, kb⟩ := text_room (HBr.out.trans ((hb4.trans (hb5.mono hb4.size)).mono hz))
      obtain ⟨r0, r1⟩ := two_set (v0 := .int .i64 0) (v1 := .string jt) q0 q1
      clear hb4 hb5 HJ2 HBr
      go_wp2_with fail
      exact bodyPost_ret (v := .agg #[.int .i64 0, .string jt]) (by simp [results, Tryz.results25, go_sem, r0, r1]) rfl ⟨by rw [HJT.out], (kb.setCell (Nat.le_refl _) _).setCell (Nat.le_refl _) _⟩
set_option maxRecDepth 100000 in
set_option maxHeartbeats 4000000 in
theorem implJoin_any (w : World) (a : Option Addr) (cap : Nat) (l : List Hdr) (name : ByteArray) (hl : l.length ≤ 1048576) (hcap : l.length ≤ cap) (hset : SetIs w) (hi : HdsIn w a l) :
    Calls Tryz.prog 25 #[.slice a l.length cap, .string name] w fun e w' => e = .returned (.agg #[.int .i64 (joinC l name), .string (joinT l name)]) ∧ Below w.heap.size w w' := by
  have HA : Hid (∀ W, Below w.heap.size w W → Calls Tryz.prog 35 #[.slice a l.length cap, .string name] W fun e w' => e = .returned (.int .i64 (askC l name)) ∧ Below W.heap.size W w') := fun W hb => namedFault_any W a cap l name hl (hset.below hb) (hi.keep hb)
  by_cases h0 : askC l name = 0
  · cases hf : firstAt (lowS name) l with
    | some i =>
      have hv : ¬ valsOf (lowS name) l = [] := fun e => by rw [valsOf_first.1 e] at hf; cases hf
      rw [(join_some h0 hv).1, (join_some h0 hv).2]
      have hil := firstAt_lt hf
      rcases hi with h | ⟨b, off, rfl, hat⟩
      · subst h; simp at hil
      · exact implJoin_found w b off cap l name i h0 hf hcap hset hat
    | none =>
      have hv : valsOf (lowS name) l = [] := valsOf_first.2 hf
      rw [(join_none h0 hv).1, (join_none h0 hv).2]
      obtain ⟨h20, hz, hnm⟩ := asked h0
      have HP : Hid (∀ W, Below w.heap.size w W → Calls Tryz.prog 36 #[.slice a l.length cap] W fun e w' => e = .returned (.map (some W.heap.size)) ∧ NamesMap w' W.heap.size 20 (fun x => firstAt x l) ∧ Below W.heap.size W w') := fun W hb => firstPlaces_any W a cap l h20 (fun i r hr => (hz i r hr).1) (hi.keep hb)
      have HS : Hid (∀ W, Calls Tryz.prog 37 #[.string name] W fun e w' => e = .returned (.string (lowS name)) ∧ Below W.heap.size W w') := fun W => smallName_any name W (by omega)
      have HF : Hid (firstAt (lowS name) l = none) := hf
      have sz := lowS_size name
      rw [h0] at HA
      clear hi hz h0 h20 hset hf hv
      generalize l.length = n at *
      generalize lowS name = q at *
      go_enter Tryz.func25, Tryz.ntmps25
      go_wp2_with fail
      refine (HA.out _ ((Below.refl _ _).alloc (Nat.le_refl _) _)).mono ?_
      rintro e w1 ⟨rfl, hb1⟩
      rw [World.size_alloc] at hb1
      have HB1 : Hid (Below (w.heap.size + 1) (w.alloc (.cells #[.int .i64 0, .string ⟨#[]⟩] 29)) w1) := hb1
      have hz1 : w.heap.size + 1 ≤ w1.heap.size := by have := hb1.size; rwa [World.size_alloc] at this
      clear hb1 HA
      go_wp2_with fail
      refine (HS.out _).mono ?_
      rintro e w2 ⟨rfl, hb2⟩
      have HB2 : Hid (Below (w.heap.size + 1) (w.alloc (.cells #[.int .i64 0, .string ⟨#[]⟩] 29)) w2) := HB1.out.trans (hb2.mono hz1)
      have hz2 : w.heap.size + 1 ≤ w2.heap.size := Nat.le_trans hz1 hb2.size
      clear hb2 HB1 HS hz1
      go_wp2_with fail
      refine (HP.out _ (text_room HB2.out).2.2.2.2.2).mono ?_
      rintro e w3 ⟨rfl, hm3, hb3⟩
      obtain ⟨hz3, q0, q1, f0, f1, kb⟩ := text_room (HB2.out.trans (hb3.mono hz2))
      obtain ⟨r0, r1⟩ := two_set (v0 := .int .i64 4) (v1 := .string ⟨#[]⟩) q0 q1
      have HM3 : Hid (NamesMap w3 w2.heap.size 20 (fun x => firstAt x l)) := hm3
      clear hb3 HB2 hm3 HP hz2
      generalize w2.heap.size = B at *
      try clear w2
      go_wp2_with (at_lookup; refine wpList_look_none _ rfl _ _ rfl B 20 _ rfl HM3.out q rfl (by omega) HF.out ?_)
      exact bodyPost_ret (v := .agg #[.int .i64 4, .string ⟨#[]⟩]) (by simp [results, Tryz.results25, go_sem, r0, r1]) rfl ⟨rfl, (kb.setCell (Nat.le_refl _) _).setCell (Nat.le_refl _) _⟩
  · rw [(join_bad h0).1, (join_bad h0).2]
    clear hi hset
    generalize askC l name = fc at *
    generalize l.length = n at *
    go_enter Tryz.func25, Tryz.ntmps25
    go_wp2_with fail
    refine (HA.out _ ((Below.refl _ _).alloc (Nat.le_refl _) _)).mono ?_
    rintro e w1 ⟨rfl, hb1⟩
    rw [World.size_alloc] at hb1
    obtain ⟨hz2, q0, q1, f0, f1, kb⟩ := text_room hb1
    obtain ⟨r0, r1⟩ := two_set (v0 := .int .i64 fc) (v1 := .string ⟨#[]⟩) q0 q1
    clear hb1 HA
    go_wp2_with fail
    exact bodyPost_ret (v := .agg #[.int .i64 fc, .string ⟨#[]⟩]) (by simp [results, Tryz.results25, go_sem, r0, r1]) rfl ⟨rfl, (kb.setCell (Nat.le_refl _) _).setCell (Nat.le_refl _) _⟩
end Go.Proofs.YtmnblligifgcjaaGreatDoor
/-
  Requests and responses as bytes, plainly. No Go in sight.
-/
namespace Go.Proofs.YtmnblligifgcjaaGreatDoor
def hostT : ByteArray := ⟨#[72, 111, 115, 116]⟩
theorem hostT_low : lowS hostT = hostN := by decide +kernel
theorem hostN_low : lowS hostN = hostN := by decide +kernel
theorem hostT_word : wordS hostT = true := by decide +kernel
theorem trim_plain (s : ByteArray) (h : ∀ c ∈ s.data.toList, blankI (c.toNat : Int) = false) : trimT s = s := by
  have e := trim_between s.data.toList 0 s.data.toList.length (Nat.zero_le _) (Nat.le_refl _) (fun j b hj _ => absurd hj (by omega)) (fun b _ hb => h b (List.mem_of_getElem? hb))
    (fun j b hj hb => absurd (List.getElem?_eq_some_iff.1 hb).1 (by omega)) (fun b _ hb => h b (List.mem_of_getElem? hb))
  unfold trimT
  rw [e, List.take_length, List.drop_zero]
theorem hostI_plain (c : Int) (h : hostI c = true) : blankI c = false ∧ plainI c = true := by
  simp only [hostI, Bool.or_eq_true, Bool.and_eq_true, decide_eq_true_eq] at h
  constructor
  · simp [blankI]; omega
  · simp [plainI]; omega
theorem hostS_true {h : ByteArray} (hs : hostS h = true) : 1 ≤ h.size ∧ h.size ≤ 60 ∧ ∀ c ∈ h.data.toList, hostI (c.toNat : Int) = true := by
  simp only [hostS, Bool.and_eq_true, decide_eq_true_eq] at hs
  exact ⟨hs.1.1, hs.1.2, allP_mem hs.2⟩
theorem host_line {h : ByteArray} (hs : hostS h = true) : faultH ⟨hostT, h⟩ = 0 := by
  obtain ⟨h1, h2, h3⟩ := hostS_true hs
  unfold faultH
  rw [if_neg (by rw [hostT_word]; decide), if_neg (by simp only; omega), if_neg ?_, if_pos ?_]
  · exact trim_plain h fun c hc => (hostI_plain _ (h3 c hc)).1
  · have : plainL h.data.toList = true := List.all_eq_true.2 fun c hc => (hostI_plain _ (h3 c hc)).2
    simp only [this]; decide
theorem host_heads {h : ByteArray} {l : List Hdr} (hs : hostS h = true) (h0 : headsC l = 0) (hl : l.length < 20) : headsC (⟨hostT, h⟩ :: l) = 0 := by
  rw [headsC_few (by simp only [List.length_cons]; omega), faultHL_ok (host_line hs)]
  rw [headsC_few (by omega)] at h0
  exact h0
def verL : List UInt8 := [72, 84, 84, 80, 47, 49, 46, 49]
def reqL (m h p : ByteArray) (l : List Hdr) : List UInt8 := m.data.toList ++ [32] ++ p.data.toList ++ [32] ++ verL ++ [13, 10] ++ packL (⟨hostT, h⟩ :: l) ++ [13, 10]
def reqB (m h p : ByteArray) (l : List Hdr) : List UInt8 := if reqC m h p l = 0 then reqL m h p l else []
theorem packL_len {l : List Hdr} (h : headsC l = 0) : (packL l).length ≤ 268 * l.length := by
  have h2 := (headsC_zero h).2
  have : ∀ l : List Hdr, (∀ r ∈ l, faultH r = 0) → (packL l).length ≤ 268 * l.length := fun l => by
    induction l with
    | nil => intro _; simp [packL]
    | cons r l ih =>
      intro hh
      have a := lineL_len (hh r (by simp))
      have b := ih fun x hx => hh x (by simp [hx])
      simp only [packL, List.flatMap_cons, List.length_append, List.length_cons] at b ⊢
      omega
  refine this l fun r hr => ?_
  obtain ⟨i, hi⟩ := List.getElem?_of_mem hr
  exact h2 i r hi
theorem packL_cons (r : Hdr) (l : List Hdr) : packL (r :: l) = lineL r ++ packL l := by simp [packL]
end Go.Proofs.YtmnblligifgcjaaGreatDoor
/-
  What RequestFault and its model answer.
-/
namespace Go.Proofs.YtmnblligifgcjaaGreatDoor
open Go.ChangeShapes Go.WideShapes Go.ChangeAt Go.RowKit
theorem heads_sizes {l : List Hdr} (h : headsC l = 0) : l.length ≤ 20 ∧ ∀ (i : Nat) r, l[i]? = some r → r.name.size ≤ 64 ∧ r.value.size ≤ 200 := by
  obtain ⟨h1, h2⟩ := headsC_zero h
  refine ⟨h1, fun i r hr => ?_⟩
  obtain ⟨a, b, _⟩ := faultH_zero (h2 i r hr)
  exact ⟨hword_max a, b⟩
theorem lit_ne {m : ByteArray} {l : List UInt8} (h : ¬ m = ⟨l.toArray⟩) : (m.toList == l) = false := by
  rw [beq_eq_false_iff_ne, ByteArray.toList_eq]
  intro e
  apply h
  rw [← e]
theorem anyV_nil {vs : List ByteArray} (h : vs = []) : anyV vs = false := by subst h; rfl
theorem anyV_some {vs : List ByteArray} (h : vs ≠ []) : anyV vs = true := by simpa [anyV] using h
/-- A request, boxed. -/
def rqV (m h p : ByteArray) (a : Option Addr) (n cap : Nat) : Value := .agg #[.string m, .string h, .string p, .slice a n cap]
theorem reqJoin {l : List Hdr} (h : headsC l = 0) : (valsOf hostN l ≠ [] → joinC l ⟨#[72, 111, 115, 116]⟩ = 0) ∧ (valsOf hostN l = [] → joinC l ⟨#[72, 111, 115, 116]⟩ = 4) := by
  have e0 : askC l hostT = 0 := askC_word h hostT_word
  refine ⟨fun hv => ?_, fun hv => ?_⟩
  · exact (join_some e0 (by rw [hostT_low]; exact hv)).1
  · exact (join_none e0 (by rw [hostT_low]; exact hv)).1
set_option maxHeartbeats 4000000 in
theorem specReq_get (w : World) (h p : ByteArray) (a : Option Addr) (cap : Nat) (l : List Hdr) (hl : l.length ≤ 1048576) (hi : HdsIn w a l) :
    Calls Tryz.prog 39 #[.agg #[.string ⟨#[71, 69, 84]⟩, .string h, .string p, .slice a l.length cap]] w fun e w' => e = .returned (.int .i64 (reqC ⟨#[71, 69, 84]⟩ h p l)) ∧ Below w.heap.size w w' := by
  have HM : methS ⟨#[71, 69, 84]⟩ = true := by decide +kernel
  have CH := fun W => l5Host_any h W
  have CP := fun W => l5Path_any p W
  have bW : Below w.heap.size w (w.alloc (.cells #[.string ⟨#[71, 69, 84]⟩, .string h, .string p, .slice a l.length cap] 42)) := (Below.refl _ _).alloc (Nat.le_refl _) _
  cases ch : hostS h
  · have HE : Hid (reqC ⟨#[71, 69, 84]⟩ h p l = 5) := reqC_bad (by simp [lineS, ch])
    simp only [ch] at CH
    have HB : Hid (Below w.heap.size w (w.alloc (.cells #[.string ⟨#[71, 69, 84]⟩, .string h, .string p, .slice a l.length cap] 42))) := bW
    clear bW HM hi ch CP
    go_enter Tryz.func39, Tryz.ntmps39
    go_wp2_with (go_at_call 64; refine (CH _).mono ?_; rintro e w' ⟨rfl, rfl⟩)
    go_ret
    exact ⟨ret_int HE.out.symm, HB.out⟩
  simp only [ch] at CH
  cases cp : pathS p
  · have HE : Hid (reqC ⟨#[71, 69, 84]⟩ h p l = 5) := reqC_bad (by simp [lineS, cp])
    simp only [cp] at CP
    have HB : Hid (Below w.heap.size w (w.alloc (.cells #[.string ⟨#[71, 69, 84]⟩, .string h, .string p, .slice a l.length cap] 42))) := bW
    clear bW HM hi ch cp
    go_enter Tryz.func39, Tryz.ntmps39
    go_wp2_with (first | (go_at_call 64; refine (CH _).mono ?_; rintro e w' ⟨rfl, rfl⟩) | (go_at_call 65; refine (CP _).mono ?_; rintro e w' ⟨rfl, rfl⟩))
    go_ret
    exact ⟨ret_int HE.out.symm, HB.out⟩
  simp only [cp] at CP
  have hls : lineS ⟨#[71, 69, 84]⟩ h p = true := by simp [lineS, HM, ch, cp]
  have HR : Hid (reqC ⟨#[71, 69, 84]⟩ h p l = restC l) := reqC_ok hls
  obtain ⟨W, hW⟩ : ∃ W, W = w.alloc (.cells #[.string ⟨#[71, 69, 84]⟩, .string h, .string p, .slice a l.length cap] 42) := ⟨_, rfl⟩
  have HW : Hid (W = w.alloc (.cells #[.string ⟨#[71, 69, 84]⟩, .string h, .string p, .slice a l.length cap] 42)) := hW
  have hc3 : W.cell? ⟨w.heap.size, 3, none⟩ = some (.slice a l.length cap) := by rw [hW, World.cell?_alloc_mark]; rfl
  rw [← hW] at bW
  have hlt : w.heap.size < W.heap.size := by rw [hW]; simp
  have CF := specHFault_any W a cap l hl (hi.keep bW)
  have HI : Hid (HdsIn w a l) := hi
  have HB : Hid (Below w.heap.size w W) := bW
  clear hi bW hW ch cp hls HM
  go_enter Tryz.func39, Tryz.ntmps39
  go_wp2_with (first | (go_at_call 64; refine (CH _).mono ?_; rintro e w' ⟨rfl, rfl⟩) | (go_at_call 65; refine (CP _).mono ?_; rintro e w' ⟨rfl, rfl⟩))
  rw [← HW.out]
  refine CF.mono ?_
  rintro e w1 ⟨rfl, hb1⟩
  clear CF CH CP HW
  have hc3' : w1.cell? ⟨w.heap.size, 3, none⟩ = some (.slice a l.length cap) := by rw [hb1.cell (p := ⟨w.heap.size, 3, none⟩) hlt]; exact hc3
  have HB1 : Hid (Below w.heap.size w w1) := HB.out.trans (hb1.mono HB.out.size)
  have hlt1 : w.heap.size < w1.heap.size := Nat.lt_of_lt_of_le hlt hb1.size
  clear hb1 hc3 hlt HB
  by_cases c0 : headsC l = 0
  · obtain ⟨s1, s2⟩ := heads_sizes c0
    have CJ := l4Join_any w1 a cap l hostN s1 s2 (by decide) (HI.out.keep HB1.out)
    rw [hostN_low] at CJ
    have HJ : Hid (Calls Tryz.prog 59 #[.slice a l.length cap, .string ⟨#[104, 111, 115, 116]⟩] w1 fun e w' => e = .returned (.tuple #[.string ⟨(hjoinL (valsOf hostN l)).toArray⟩, .bool (anyV (valsOf hostN l))]) ∧ Below w1.heap.size w1 w') := CJ
    have HE1 : Hid (valsOf hostN l ≠ [] → restC l = 6) := fun hv => restC_host c0 hv
    have HE2 : Hid (valsOf hostN l = [] → 20 ≤ l.length → restC l = 2) := fun hv hn => restC_many c0 hv hn
    have HE3 : Hid (valsOf hostN l = [] → ¬ 20 ≤ l.length → restC l = 0) := fun hv hn => restC_ok c0 hv hn
    rw [c0]
    clear c0 s2 CJ HI
    generalize (⟨(hjoinL (valsOf hostN l)).toArray⟩ : ByteArray) = t at *
    go_wp2_with fail
    refine HJ.out.mono ?_
    rintro e w2 ⟨rfl, hb2⟩
    have hc4 : w2.cell? ⟨w.heap.size, 3, none⟩ = some (.slice a l.length cap) := by rw [hb2.cell (p := ⟨w.heap.size, 3, none⟩) hlt1]; exact hc3'
    have HB2 : Hid (Below w.heap.size w w2) := HB1.out.trans (hb2.mono HB1.out.size)
    clear hb2 HJ hc3' hlt1
    by_cases cv : valsOf hostN l = []
    · rw [anyV_nil cv]
      by_cases cn : 20 ≤ l.length
      · have HE : Hid (reqC ⟨#[71, 69, 84]⟩ h p l = 2) := by show _ = _; rw [HR.out]; exact HE2.out cv cn
        have cn' : (20 : Int) ≤ l.length := by omega
        clear HE1 HE2 HE3 HR cv cn
        generalize l.length = n at *
        go_wp2_with fail
        go_ret
        exact ⟨ret_int HE.out.symm, HB2.out⟩
      · have HE : Hid (reqC ⟨#[71, 69, 84]⟩ h p l = 0) := by show _ = _; rw [HR.out]; exact HE3.out cv cn
        have cn' : ¬ (20 : Int) ≤ l.length := by omega
        clear HE1 HE2 HE3 HR cv cn
        generalize l.length = n at *
        go_wp2_with fail
        go_ret
        exact ⟨ret_int HE.out.symm, HB2.out⟩
    · rw [anyV_some cv]
      have HE : Hid (reqC ⟨#[71, 69, 84]⟩ h p l = 6) := by show _ = _; rw [HR.out]; exact HE1.out cv
      clear HE1 HE2 HE3 HR cv
      go_wp2_with fail
      go_ret
      exact ⟨ret_int HE.out.symm, HB2.out⟩
  · have HE : Hid (reqC ⟨#[71, 69, 84]⟩ h p l = headsC l) := by show _ = _; rw [HR.out]; exact restC_heads c0
    clear HR HI
    generalize headsC l = c at *
    go_wp2_with fail
    go_ret
    exact ⟨ret_int HE.out.symm, HB1.out⟩
set_option maxHeartbeats 4000000 in
theorem specReq_head (w : World) (h p : ByteArray) (a : Option Addr) (cap : Nat) (l : List Hdr) (hl : l.length ≤ 1048576) (hi : HdsIn w a l) :
    Calls Tryz.prog 39 #[.agg #[.string ⟨#[72, 69, 65, 68]⟩, .string h, .string p, .slice a l.length cap]] w fun e w' => e = .returned (.int .i64 (reqC ⟨#[72, 69, 65, 68]⟩ h p l)) ∧ Below w.heap.size w w' := by
  have HM : methS ⟨#[72, 69, 65, 68]⟩ = true := by decide +kernel
  have CH := fun W => l5Host_any h W
  have CP := fun W => l5Path_any p W
  have bW : Below w.heap.size w (w.alloc (.cells #[.string ⟨#[72, 69, 65, 68]⟩, .string h, .string p, .slice a l.length cap] 42)) := (Below.refl _ _).alloc (Nat.le_refl _) _
  cases ch : hostS h
  · have HE : Hid (reqC ⟨#[72, 69, 65, 68]⟩ h p l = 5) := reqC_bad (by simp [lineS, ch])
    simp only [ch] at CH
    have HB : Hid (Below w.heap.size w (w.alloc (.cells #[.string ⟨#[72, 69, 65, 68]⟩, .string h, .string p, .slice a l.length cap] 42))) := bW
    clear bW HM hi ch CP
    go_enter Tryz.func39, Tryz.ntmps39
    go_wp2_with (go_at_call 64; refine (CH _).mono ?_; rintro e w' ⟨rfl, rfl⟩)
    go_ret
    exact ⟨ret_int HE.out.symm, HB.out⟩
  simp only [ch] at CH
  cases cp : pathS p
  · have HE : Hid (reqC ⟨#[72, 69, 65, 68]⟩ h p l = 5) := reqC_bad (by simp [lineS, cp])
    simp only [cp] at CP
    have HB : Hid (Below w.heap.size w (w.alloc (.cells #[.string ⟨#[72, 69, 65, 68]⟩, .string h, .string p, .slice a l.length cap] 42))) := bW
    clear bW HM hi ch cp
    go_enter Tryz.func39, Tryz.ntmps39
    go_wp2_with (first | (go_at_call 64; refine (CH _).mono ?_; rintro e w' ⟨rfl, rfl⟩) | (go_at_call 65; refine (CP _).mono ?_; rintro e w' ⟨rfl, rfl⟩))
    go_ret
    exact ⟨ret_int HE.out.symm, HB.out⟩
  simp only [cp] at CP
  have hls : lineS ⟨#[72, 69, 65, 68]⟩ h p = true := by simp [lineS, HM, ch, cp]
  have HR : Hid (reqC ⟨#[72, 69, 65, 68]⟩ h p l = restC l) := reqC_ok hls
  obtain ⟨W, hW⟩ : ∃ W, W = w.alloc (.cells #[.string ⟨#[72, 69, 65, 68]⟩, .string h, .string p, .slice a l.length cap] 42) := ⟨_, rfl⟩
  have HW : Hid (W = w.alloc (.cells #[.string ⟨#[72, 69, 65, 68]⟩, .string h, .string p, .slice a l.length cap] 42)) := hW
  have hc3 : W.cell? ⟨w.heap.size, 3, none⟩ = some (.slice a l.length cap) := by rw [hW, World.cell?_alloc_mark]; rfl
  rw [← hW] at bW
  have hlt : w.heap.size < W.heap.size := by rw [hW]; simp
  have CF := specHFault_any W a cap l hl (hi.keep bW)
  have HI : Hid (HdsIn w a l) := hi
  have HB : Hid (Below w.heap.size w W) := bW
  clear hi bW hW ch cp hls HM
  go_enter Tryz.func39, Tryz.ntmps39
  go_wp2_with (first | (go_at_call 64; refine (CH _).mono ?_; rintro e w' ⟨rfl, rfl⟩) | (go_at_call 65; refine (CP _).mono ?_; rintro e w' ⟨rfl, rfl⟩))
  rw [← HW.out]
  refine CF.mono ?_
  rintro e w1 ⟨rfl, hb1⟩
  clear CF CH CP HW
  have hc3' : w1.cell? ⟨w.heap.size, 3, none⟩ = some (.slice a l.length cap) := by rw [hb1.cell (p := ⟨w.heap.size, 3, none⟩) hlt]; exact hc3
  have HB1 : Hid (Below w.heap.size w w1) := HB.out.trans (hb1.mono HB.out.size)
  have hlt1 : w.heap.size < w1.heap.size := Nat.lt_of_lt_of_le hlt hb1.size
  clear hb1 hc3 hlt HB
  by_cases c0 : headsC l = 0
  · obtain ⟨s1, s2⟩ := heads_sizes c0
    have CJ := l4Join_any w1 a cap l hostN s1 s2 (by decide) (HI.out.keep HB1.out)
    rw [hostN_low] at CJ
    have HJ : Hid (Calls Tryz.prog 59 #[.slice a l.length cap, .string ⟨#[104, 111, 115, 116]⟩] w1 fun e w' => e = .returned (.tuple #[.string ⟨(hjoinL (valsOf hostN l)).toArray⟩, .bool (anyV (valsOf hostN l))]) ∧ Below w1.heap.size w1 w') := CJ
    have HE1 : Hid (valsOf hostN l ≠ [] → restC l = 6) := fun hv => restC_host c0 hv
    have HE2 : Hid (valsOf hostN l = [] → 20 ≤ l.length → restC l = 2) := fun hv hn => restC_many c0 hv hn
    have HE3 : Hid (valsOf hostN l = [] → ¬ 20 ≤ l.length → restC l = 0) := fun hv hn => restC_ok c0 hv hn
    rw [c0]
    clear c0 s2 CJ HI
    generalize (⟨(hjoinL (valsOf hostN l)).toArray⟩ : ByteArray) = t at *
    go_wp2_with fail
    refine HJ.out.mono ?_
    rintro e w2 ⟨rfl, hb2⟩
    have hc4 : w2.cell? ⟨w.heap.size, 3, none⟩ = some (.slice a l.length cap) := by rw [hb2.cell (p := ⟨w.heap.size, 3, none⟩) hlt1]; exact hc3'
    have HB2 : Hid (Below w.heap.size w w2) := HB1.out.trans (hb2.mono HB1.out.size)
    clear hb2 HJ hc3' hlt1
    by_cases cv : valsOf hostN l = []
    · rw [anyV_nil cv]
      by_cases cn : 20 ≤ l.length
      · have HE : Hid (reqC ⟨#[72, 69, 65, 68]⟩ h p l = 2) := by show _ = _; rw [HR.out]; exact HE2.out cv cn
        have cn' : (20 : Int) ≤ l.length := by omega
        clear HE1 HE2 HE3 HR cv cn
        generalize l.length = n at *
        go_wp2_with fail
        go_ret
        exact ⟨ret_int HE.out.symm, HB2.out⟩
      · have HE : Hid (reqC ⟨#[72, 69, 65, 68]⟩ h p l = 0) := by show _ = _; rw [HR.out]; exact HE3.out cv cn
        have cn' : ¬ (20 : Int) ≤ l.length := by omega
        clear HE1 HE2 HE3 HR cv cn
        generalize l.length = n at *
        go_wp2_with fail
        go_ret
        exact ⟨ret_int HE.out.symm, HB2.out⟩
    · rw [anyV_some cv]
      have HE : Hid (reqC ⟨#[72, 69, 65, 68]⟩ h p l = 6) := by show _ = _; rw [HR.out]; exact HE1.out cv
      clear HE1 HE2 HE3 HR cv
      go_wp2_with fail
      go_ret
      exact ⟨ret_int HE.out.symm, HB2.out⟩
  · have HE : Hid (reqC ⟨#[72, 69, 65, 68]⟩ h p l = headsC l) := by show _ = _; rw [HR.out]; exact restC_heads c0
    clear HR HI
    generalize headsC l = c at *
    go_wp2_with fail
    go_ret
    exact ⟨ret_int HE.out.symm, HB1.out⟩
set_option maxHeartbeats 1000000 in
theorem specReq_any (w : World) (m h p : ByteArray) (a : Option Addr) (cap : Nat) (l : List Hdr) (hl : l.length ≤ 1048576) (hi : HdsIn w a l) :
    Calls Tryz.prog 39 #[.agg #[.string m, .string h, .string p, .slice a l.length cap]] w fun e w' => e = .returned (.int .i64 (reqC m h p l)) ∧ Below w.heap.size w w' := by
  by_cases c1 : m = ⟨#[71, 69, 84]⟩
  · subst c1; exact specReq_get w h p a cap l hl hi
  by_cases c2 : m = ⟨#[72, 69, 65, 68]⟩
  · subst c2; exact specReq_head w h p a cap l hl hi
  have HE : Hid (reqC m h p l = 5) := reqC_bad (by
    have : methS m = false := by simp only [methS, getT, headT, c1, c2, decide_false]; rfl
    simp [lineS, this])
  have d1 : (m.toList == [71, 69, 84]) = false := lit_ne c1
  have d2 : (m.toList == [72, 69, 65, 68]) = false := lit_ne c2
  clear c1 c2
  clear hi
  go_enter Tryz.func39, Tryz.ntmps39
  go_wp2_with fail
  go_ret
  exact ⟨ret_int HE.out.symm, (Below.refl _ _).alloc (Nat.le_refl _) _⟩
end Go.Proofs.YtmnblligifgcjaaGreatDoor
/-
  Rows of bytes: the laws' own helpers over them.
-/
namespace Go.Proofs.YtmnblligifgcjaaGreatDoor
open Go.ChangeShapes Go.WideShapes Go.ChangeAt Go.RowKit Go.Sort
def BAt (w : World) (b off : Nat) (l : List UInt8) : Prop := ∀ (i : Nat) c, l[i]? = some c → w.cell? ⟨b, off + i, none⟩ = some (.int .u8 (c.toNat : Int))
theorem BAt.keep {w w' : World} {b off : Nat} {l : List UInt8} (h : BAt w b off l) (hb : Below w.heap.size w w') : BAt w' b off l := by
  intro i c hc
  have := h i c hc
  rw [hb.cell (block_lt_of_cell this)]; exact this
def BIn (w : World) (a : Option Addr) (l : List UInt8) : Prop := l = [] ∨ ∃ b off, a = some ⟨b, off, none⟩ ∧ BAt w b off l
theorem BIn.keep {w w' : World} {a : Option Addr} {l : List UInt8} (h : BIn w a l) (hb : Below w.heap.size w w') : BIn w' a l := by
  rcases h with h | ⟨b, off, e, h⟩
  · exact .inl h
  · exact .inr ⟨b, off, e, h.keep hb⟩
structure BMine (W : World) (B : Nat) (l : List UInt8) : Prop where
  at0 : BAt W B 0 l
  free : ∀ o, o < l.length → W.frozen? ⟨B, o, none⟩ = false
  lt : B < W.heap.size
theorem BMine.keep {W W' : World} {B : Nat} {l : List UInt8} (h : BMine W B l) (hb : Below W.heap.size W W') : BMine W' B l :=
  ⟨h.at0.keep hb, fun o ho => by rw [hb.frozen (p := ⟨B, o, none⟩) h.lt]; exact h.free o ho, Nat.lt_of_lt_of_le h.lt hb.size⟩
theorem BMine.in {W : World} {B : Nat} {l : List UInt8} (h : BMine W B l) : BIn W (some ⟨B, 0, none⟩) l := .inr ⟨B, 0, rfl, h.at0⟩
theorem infoByteR : (Tryz.prog.info? 5).map (fun i => (i.zero, i.size, i.bytes)) = some (some (.int .u8 0), 1, 1) := by kernel_rfl
theorem BAt.put {w : World} {G : Nat} {l : List UInt8} {k n : Nat} {c : UInt8} (h : BAt w G 0 (l.take k)) (hr : l[k]? = some c) (hm : HRoom w G n) (hk : k < n) : BAt (w.setCell ⟨G, k, none⟩ (.int .u8 (c.toNat : Int))) G 0 (l.take (k + 1)) := by
  intro i q hq
  have hi : i < k + 1 := by
    have := (List.getElem?_eq_some_iff.1 hq).1
    simp at this; omega
  rw [List.getElem?_take_of_lt hi] at hq
  simp only [Nat.zero_add]
  by_cases e : i = k
  · subst e
    rw [hr] at hq
    obtain rfl := Option.some.inj hq
    obtain ⟨⟨u0, g0⟩, _⟩ := hm i (by omega)
    exact World.cell?_setCell_same _ _ _ g0
  · have hq2 : (l.take k)[i]? = some q := by rw [List.getElem?_take_of_lt (by omega)]; exact hq
    have a1 := h i q hq2
    simp only [Nat.zero_add] at a1
    rw [World.cell?_setCell_other _ _ _ _ (hoff_ne (by omega))]; exact a1
end Go.Proofs.YtmnblligifgcjaaGreatDoor
/-
  Results that hold bytes: owned, compared, marked, held.
-/
namespace Go.Proofs.YtmnblligifgcjaaGreatDoor
open Go.ChangeShapes Go.WideShapes Go.ChangeAt Go.RowKit
structure Two (W : World) (B : Nat) (v0 v1 : Value) : Prop where
  c0 : W.cell? ⟨B, 0, none⟩ = some v0
  c1 : W.cell? ⟨B, 1, none⟩ = some v1
  fr : ∀ o, W.frozen? ⟨B, o, none⟩ = false
  lt : B < W.heap.size
theorem Two.keep {W W' : World} {B : Nat} {v0 v1 : Value} (h : Two W B v0 v1) (hb : Below W.heap.size W W') : Two W' B v0 v1 :=
  ⟨by rw [hb.cell (p := ⟨B, 0, none⟩) h.lt]; exact h.c0, by rw [hb.cell (p := ⟨B, 1, none⟩) h.lt]; exact h.c1, fun o => by rw [hb.frozen (p := ⟨B, o, none⟩) h.lt]; exact h.fr o, Nat.lt_of_lt_of_le h.lt hb.size⟩
theorem Two.new (W : World) (v0 v1 : Value) (t : TypeId) : Two (W.alloc (.cells #[v0, v1] t)) W.heap.size v0 v1 :=
  ⟨by rw [World.cell?_alloc_mark]; rfl, by rw [World.cell?_alloc_mark]; rfl, fun o => by have e := heap_alloc_new W (.cells #[v0, v1] t); unfold World.frozen?; rw [e]; simp, by simp⟩
/-- v holds the bytes l in a row of its own, from block base on; or it is nil and there are none. -/
def BOwn (w : World) (base : Nat) (v : Value) (l : List UInt8) : Prop := (v = .slice none 0 0 ∧ l = []) ∨ ∃ g k, v = .slice (some ⟨g, 0, none⟩) l.length k ∧ base ≤ g ∧ BMine w g l
theorem BOwn.keep {w w' : World} {base : Nat} {v : Value} {l : List UInt8} (h : BOwn w base v l) (hb : Below w.heap.size w w') : BOwn w' base v l := by
  rcases h with h | ⟨g, k, e, hg, hm⟩
  · exact .inl h
  · exact .inr ⟨g, k, e, hg, hm.keep hb⟩
theorem BOwn.lower {w : World} {b0 base : Nat} {v : Value} {l : List UInt8} (h : BOwn w base v l) (hb : b0 ≤ base) : BOwn w b0 v l := by
  rcases h with h | ⟨g, k, e, hg, hm⟩
  · exact .inl h
  · exact .inr ⟨g, k, e, Nat.le_trans hb hg, hm⟩
theorem BOwn.shape {w : World} {base : Nat} {v : Value} {l : List UInt8} (h : BOwn w base v l) : ∃ a k, v = .slice a l.length k ∧ BIn w a l := by
  rcases h with ⟨rfl, rfl⟩ | ⟨g, k, rfl, hg, hm⟩
  · exact ⟨none, 0, rfl, .inl rfl⟩
  · exact ⟨_, _, rfl, hm.in⟩
theorem BOwn.block {w : World} {base : Nat} {v : Value} {l : List UInt8} (h : BOwn w base v l) : ∀ b, v.ownBlock = some b → base ≤ b ∧ b < w.heap.size := by
  rcases h with ⟨rfl, _⟩ | ⟨g, k, rfl, hg, hm⟩
  · intro b hb; cases hb
  · intro b hb; simp only [Value.ownBlock, Option.some.injEq] at hb; subst hb; exact ⟨hg, hm.lt⟩
/-- What a call hands back: a code, and bytes of its own. -/
def BGot (c : Int) (l : List UInt8) (base : Nat) (e : Ending) (w : World) : Prop := ∃ a n k, e = .returned (.agg #[.int .i64 c, .slice a n k]) ∧ BOwn w base (.slice a n k) l
theorem BGot.nil (c : Int) (base : Nat) (w : World) : BGot c [] base (.returned (.agg #[.int .i64 c, .slice none 0 0])) w := ⟨none, 0, 0, rfl, .inl ⟨rfl, rfl⟩⟩
/-- A text turned into bytes. -/
theorem bytes_of_text (w : World) (s : ByteArray) : ∃ C cap, (convert 9 22 (.string s)).run Tryz.prog w = .ok (.slice (some ⟨w.heap.size, 0, none⟩) s.size cap) (w.drew.alloc (.cells C 5 (C.size, C.size + 1))) ∧ BMine (w.drew.alloc (.cells C 5 (C.size, C.size + 1))) w.heap.size s.data.toList := by
  have h1 := run_bytes_of_string (P := Tryz.prog) w 9 22 5 s Tryz.underlying9 Tryz.underlying22 Tryz.underlying5
  have h2 := fun cap => BRow.made w s cap _ rfl
  refine ⟨_, _, h1, ?_⟩
  have h3 := h2 (grownCap w s.size 0 5)
  refine ⟨fun i c hc => ?_, fun o ho => ?_, ?_⟩
  · obtain ⟨hi, rfl⟩ := List.getElem?_eq_some_iff.1 hc
    rw [Nat.zero_add]
    exact h3.cell i hi
  · exact h3.free o ho
  · show w.heap.size < (w.drew.heap.push _).size
    rw [Array.size_push]; exact Nat.lt_succ_self _
end Go.Proofs.YtmnblligifgcjaaGreatDoor
/-
  What PackRequest and its model answer.
-/
namespace Go.Proofs.YtmnblligifgcjaaGreatDoor
open Go.ChangeShapes Go.WideShapes Go.ChangeAt Go.RowKit
theorem two_put {w : World} {B : Nat} {u0 u1 v0 v1 : Value} (h : Two w B u0 u1) : Two ((w.setCell ⟨B, 0, none⟩ v0).setCell ⟨B, 1, none⟩ v1) B v0 v1 :=
  ⟨(two_set h.c0 h.c1).1, (two_set h.c0 h.c1).2, fun o => by rw [World.frozen?_setCell, World.frozen?_setCell]; exact h.fr o, by simpa using h.lt⟩
theorem BMine.put {w : World} {B g : Nat} {l : List UInt8} (h : BMine w g l) (v0 v1 : Value) (hne : B ≠ g) : BMine ((w.setCell ⟨B, 0, none⟩ v0).setCell ⟨B, 1, none⟩ v1) g l := by
  have ne : ∀ i o : Nat, (⟨B, i, none⟩ : Addr) ≠ ⟨g, o, none⟩ := fun i o e => hne (congrArg Addr.block e)
  refine ⟨fun i c hc => ?_, fun o ho => by rw [World.frozen?_setCell, World.frozen?_setCell]; exact h.free o ho, by simpa using h.lt⟩
  rw [World.cell?_setCell_other _ _ _ _ (ne _ _), World.cell?_setCell_other _ _ _ _ (ne _ _)]
  exact h.at0 i c hc
theorem method_size {m h p : ByteArray} (c : lineS m h p = true) : m.size ≤ 4 ∧ h.size ≤ 60 ∧ p.size ≤ 100 := by
  obtain ⟨h1, h2, h3⟩ := lineS_true c
  refine ⟨?_, (hostS_true h2).2.1, ?_⟩
  · simp only [methS, Bool.or_eq_true, decide_eq_true_eq] at h1
    rcases h1 with rfl | rfl <;> decide
  · simp only [pathS, Bool.and_eq_true, decide_eq_true_eq] at h3
    exact h3.1.2
def reqText (m h p : ByteArray) (t : ByteArray) : ByteArray := m ++ ⟨#[32]⟩ ++ p ++ ⟨#[32, 72, 84, 84, 80, 47, 49, 46, 49, 13, 10, 72, 111, 115, 116, 58, 32]⟩ ++ h ++ ⟨#[13, 10]⟩ ++ t ++ ⟨#[13, 10]⟩
theorem reqText_list (m h p : ByteArray) (l : List Hdr) : (reqText m h p ⟨(packL l).toArray⟩).data.toList = reqL m h p l := by
  simp only [reqText, reqL, packL_cons, lineL, hostT, verL, happ_list]
  simp
end Go.Proofs.YtmnblligifgcjaaGreatDoor
/-
  What PackRequest answers.
-/
namespace Go.Proofs.YtmnblligifgcjaaGreatDoor
open Go.ChangeShapes Go.WideShapes Go.ChangeAt Go.RowKit
theorem hdrsW_cells {w : World} {b off : Nat} {l : List Hdr} (h : HeadsAt w b off l) : ∀ j u, (hdrsW l)[j]? = some u → w.cell? ((⟨b, off, none⟩ : Addr).add j) = some u := by
  intro j u hj
  have hadd : (⟨b, off, none⟩ : Addr).add j = ⟨b, off + j, none⟩ := by unfold Addr.add; split <;> simp_all
  rw [hadd]
  have hlt : j < (hdrsW l).length := (List.getElem?_eq_some_iff.1 hj).1
  rw [hdrsW_len] at hlt
  obtain ⟨r, hr⟩ : ∃ r, l[j / 2]? = some r := ⟨l[j / 2]'(by omega), List.getElem?_eq_getElem _⟩
  obtain ⟨e0, e1⟩ := hdrsW_at l (j / 2) r hr
  obtain ⟨c0, c1⟩ := h (j / 2) r hr
  rcases Nat.mod_two_eq_zero_or_one j with hm | hm
  · have ej : j / 2 * 2 = j := by omega
    rw [ej] at e0 c0
    rw [e0] at hj
    rw [← hj]; exact c0
  · have ej : j / 2 * 2 + 1 = j := by omega
    rw [ej] at e1
    rw [Nat.add_assoc, ej] at c1
    rw [e1] at hj
    rw [← hj]; exact c1
theorem Four.keepB {W W' : World} {B base : Nat} {v0 v1 v2 v3 : Value} (h : Four W B v0 v1 v2 v3) (hB : B < base) (hb : Below base W W') : Four W' B v0 v1 v2 v3 :=
  ⟨by rw [hb.cell (p := ⟨B, 0, none⟩) hB]; exact h.c0, by rw [hb.cell (p := ⟨B, 1, none⟩) hB]; exact h.c1, by rw [hb.cell (p := ⟨B, 2, none⟩) hB]; exact h.c2, by rw [hb.cell (p := ⟨B, 3, none⟩) hB]; exact h.c3,
    fun o => by rw [hb.frozen (p := ⟨B, o, none⟩) hB]; exact h.fr o, Nat.lt_of_lt_of_le h.lt hb.size⟩
theorem Two.keepB {W W' : World} {B base : Nat} {v0 v1 : Value} (h : Two W B v0 v1) (hB : B < base) (hb : Below base W W') : Two W' B v0 v1 :=
  ⟨by rw [hb.cell (p := ⟨B, 0, none⟩) hB]; exact h.c0, by rw [hb.cell (p := ⟨B, 1, none⟩) hB]; exact h.c1, fun o => by rw [hb.frozen (p := ⟨B, o, none⟩) hB]; exact h.fr o, Nat.lt_of_lt_of_le h.lt hb.size⟩
theorem hdrsW_oneP (l : List Hdr) : ∀ u ∈ hdrsW l, u.oneCell' = true := by
  intro u hu
  simp only [hdrsW, List.mem_flatMap] at hu
  obtain ⟨r, _, hr⟩ := hu
  simp only [hdrW, List.mem_cons, List.not_mem_nil, or_false] at hr
  rcases hr with rfl | rfl <;> rfl
theorem wpList_append_hdrs {ops : Array Oper} {rest : List Oper} {o : Oper} {a : Act} {Q : Exit → Act → World → Prop} (w : World) (hgd : o.guard = none) (s x : Operand)
    (ho : o.op = .call { callee := .builtin .append, args := #[s, x], argTypes := #[24, 24] }) (base : Nat) (v : Value) (l0 : List Hdr) (b off cap : Nat) (l : List Hdr)
    (hs : a.eval s = v) (hx : a.eval x = .slice (some ⟨b, off, none⟩) l.length cap) (hown : OwnH w base v l0) (hat : HeadsAt w b off l) (hl : l0.length + l.length ≤ 1000000) (hbase : base ≤ w.heap.size)
    (h : ∀ v' w', OwnH w' base v' (l0 ++ l) → Below base w w' → w.heap.size ≤ w'.heap.size → wpList Tryz.prog ops Q rest (a.put o.dst v') w') :
    wpList Tryz.prog ops Q (o :: rest) a w := by
  obtain ⟨i0, hi, hz0, hz1, hz2⟩ := info_parts infoHeader
  refine wpList_append_own _ hgd s x 24 ho base 51 i0 (.agg #[.string ⟨#[]⟩, .string ⟨#[]⟩]) 2 32 Tryz.underlying24 hi hz0 hz1 hz2 rfl (by decide) v l0.length (hdrsW l0) hs hown ⟨b, off, none⟩ l.length cap (hdrsW l) hx (hdrsW_len l) (hdrsW_cells hat) (hdrsW_oneP l) ?_ ?_ hbase ?_
  · unfold maxLen; omega
  · omega
  · intro v' w' h1 h2 h3
    have e : hdrsW (l0 ++ l) = hdrsW l0 ++ hdrsW l := by simp [hdrsW]
    refine h v' w' (by unfold OwnH; rw [e, List.length_append]; exact h1) ?_ ?_
    · exact (Below.refl base w).grown h2 hbase (fun q hq => own_geH hown q hq)
    · exact ((Below.refl 0 w).grown h2 (Nat.zero_le _) (fun q _ => Nat.zero_le _)).size
theorem OwnH.one (w : World) (n z : ByteArray) : OwnH (w.alloc (.cells #[.string n, .string z] 51)) w.heap.size (.slice (some ⟨w.heap.size, 0, none⟩) 1 1) [⟨n, z⟩] :=
  ⟨rfl, .inr ⟨w.heap.size, 1, #[.string n, .string z], rfl, Nat.le_refl _, heap_alloc_new _ _, by simp, by unfold maxLen; omega, by simp, by simp [hdrsW, hdrW]⟩⟩
end Go.Proofs.YtmnblligifgcjaaGreatDoor
/-
  The draw of a request that may be at fault.
-/
namespace Go.Proofs.YtmnblligifgcjaaGreatDoor
open Go.ChangeShapes Go.WideShapes Go.ChangeAt Go.RowKit
/-- A request that lies in block R. -/
def RqB (w : World) (R : Nat) (m h p : ByteArray) (hv : Value) : Prop := w.heap[R]? = some (.cells #[.string m, .string h, .string p, hv] 42 (0, 0))
theorem RqB.four {w : World} {R : Nat} {m h p : ByteArray} {hv : Value} (k : RqB w R m h p hv) : Four w R (.string m) (.string h) (.string p) hv := by
  unfold RqB at k
  refine ⟨?_, ?_, ?_, ?_, fun o => ?_, (Array.getElem?_eq_some_iff.1 k).1⟩
  · simp [World.cell?, k]
  · simp [World.cell?, k]
  · simp [World.cell?, k]
  · simp [World.cell?, k]
  · simp [World.frozen?, k]
theorem RqB.new (w : World) (m h p : ByteArray) (hv : Value) : RqB (w.alloc (.cells #[.string m, .string h, .string p, hv] 42)) w.heap.size m h p hv := by
  unfold RqB
  rw [heap_alloc_new]
theorem RqB.of {w w' : World} {R : Nat} {m h p : ByteArray} {hv : Value} (k : RqB w R m h p hv) (e : w'.heap[R]? = w.heap[R]?) : RqB w' R m h p hv := by
  unfold RqB at k ⊢
  rw [e, k]
theorem RqB.lt {w : World} {R : Nat} {m h p : ByteArray} {hv : Value} (k : RqB w R m h p hv) : R < w.heap.size := (Array.getElem?_eq_some_iff.1 k).1
theorem RqB.set0 {w : World} {R : Nat} {m h p : ByteArray} {hv : Value} (k : RqB w R m h p hv) (x : ByteArray) : RqB (w.setCell ⟨R, 0, none⟩ (.string x)) R x h p hv := by
  unfold RqB at *
  unfold World.setCell
  simp [Array.getElem?_modify, k]
theorem RqB.set1 {w : World} {R : Nat} {m h p : ByteArray} {hv : Value} (k : RqB w R m h p hv) (x : ByteArray) : RqB (w.setCell ⟨R, 1, none⟩ (.string x)) R m x p hv := by
  unfold RqB at *
  unfold World.setCell
  simp [Array.getElem?_modify, k]
theorem RqB.set2 {w : World} {R : Nat} {m h p : ByteArray} {hv : Value} (k : RqB w R m h p hv) (x : ByteArray) : RqB (w.setCell ⟨R, 2, none⟩ (.string x)) R m h x hv := by
  unfold RqB at *
  unfold World.setCell
  simp [Array.getElem?_modify, k]
theorem RqB.set3 {w : World} {R : Nat} {m h p : ByteArray} {hv : Value} (k : RqB w R m h p hv) (x : Value) : RqB (w.setCell ⟨R, 3, none⟩ x) R m h p x := by
  unfold RqB at *
  unfold World.setCell
  simp [Array.getElem?_modify, k]
theorem own_ne {w : World} {R base : Nat} {m h p : ByteArray} {hv v : Value} {l : List Hdr} (k : RqB w R m h p hv) (ho : OwnH w base v l) : v.ownBlock ≠ some R := by
  obtain ⟨_, hv | ⟨g, c, cur, rfl, _, hh, _⟩⟩ := ho
  · rw [hv.1]; simp [Value.ownBlock]
  · simp only [Value.ownBlock, ne_eq, Option.some.injEq]
    rintro rfl
    unfold RqB at k
    rw [hh] at k
    simp at k
theorem OwnH.putR {w : World} {base R o : Nat} {v x : Value} {l : List Hdr} (h : OwnH w base v l) (hne : v.ownBlock ≠ some R) : OwnH (w.setCell ⟨R, o, none⟩ x) base v l := by
  obtain ⟨h1, h2⟩ := h
  refine ⟨h1, ?_⟩
  rcases h2 with h2 | ⟨g, c, cur, e, hg, hh, hrest⟩
  · exact .inl h2
  · have : g ≠ R := by
      rintro rfl
      rw [e] at hne
      exact hne rfl
    exact .inr ⟨g, c, cur, e, hg, by rw [setCell_block (by show g ≠ R; exact this)]; exact hh, hrest⟩
theorem wpList_append_hdr_g {ops : Array Oper} {rest : List Oper} {o : Oper} {a : Act} {Q : Exit → Act → World → Prop} (w : World) (hgd : o.guard = none) (s x : Operand)
    (ho : o.op = .call { callee := .builtin .append, args := #[s, x], argTypes := #[24, 24] }) (base : Nat) (v : Value) (l : List Hdr) (n : ByteArray) (z : ByteArray)
    (hs : a.eval s = v) (hx : a.eval x = .slice (some ⟨w.heap.size, 0, none⟩) 1 1) (hown : OwnH w base v l) (hl : l.length ≤ 1000000) (hbase : base ≤ w.heap.size)
    (h : ∀ v' w', OwnH w' base v' (l ++ [⟨n, z⟩]) → Below base w w' → w.heap.size ≤ w'.heap.size → (∀ b, b < w.heap.size → v.ownBlock ≠ some b → w'.heap[b]? = w.heap[b]?) → wpList Tryz.prog ops Q rest (a.put o.dst v') w') :
    wpList Tryz.prog ops Q (o :: rest) a (w.alloc (.cells #[.string n, .string z] 51)) := by
  obtain ⟨i0, hi, hz0, hz1, hz2⟩ := info_parts infoHeader
  refine wpList_append_own _ hgd s x 24 ho base 51 i0 (.agg #[.string ⟨#[]⟩, .string ⟨#[]⟩]) 2 32 Tryz.underlying24 hi hz0 hz1 hz2 rfl (by decide) v l.length (hdrsW l) hs (World.ownsRow.alloc hown _) ⟨w.heap.size, 0, none⟩ 1 1 [.string n, .string z] hx rfl ?_ ?_ ?_ ?_ ?_ ?_
  · intro j u hj
    match j, hj with
    | 0, hj => simp at hj; subst hj; simp [Addr.add]
    | 1, hj => simp at hj; subst hj; simp [Addr.add]
  · intro u hu; simp at hu; rcases hu with rfl | rfl <;> rfl
  · unfold maxLen; omega
  · omega
  · simp; omega
  · intro v' w' h1 h2 h3
    have e : hdrsW (l ++ [⟨n, z⟩]) = hdrsW l ++ [.string n, .string z] := by simp [hdrsW, hdrW]
    refine h v' w' (by unfold OwnH; rw [e, List.length_append]; exact h1) ?_ ?_ ?_
    · exact ((Below.refl base w).alloc hbase _).grown h2 (by simp; omega) (fun q hq => own_geH hown q hq)
    · have hb := ((Below.refl 0 w).alloc (Nat.zero_le _) (.cells #[.string n, .string z] 51)).grown h2 (Nat.zero_le _) (fun q _ => Nat.zero_le _)
      exact hb.size
    · intro b hb hne
      rw [h2.block b (by simp; omega) (fun e => hne e.symm)]
      exact ((Below.refl w.heap.size w).alloc (Nat.le_refl _) (.cells #[.string n, .string z] 51)).block b hb
/-- What stands while a request is bent: the source, the request in block R, the result's empty block. -/
structure BQ (w : World) (B : Nat) (a : Option Addr) (len cap k R : Nat) (m h p : ByteArray) (va : Option Addr) (n vc : Nat) (L : List Hdr) (X : World) : Prop where
  s : Src X B a len cap k
  b : Below B w X
  ap : ApartH B w X
  z : Four X w.heap.size (.string ⟨#[]⟩) (.string ⟨#[]⟩) (.string ⟨#[]⟩) (.slice none 0 0)
  r : RqB X R m h p (.slice va n vc)
  o : OwnH X (w.heap.size + 1) (.slice va n vc) L
  e : n = L.length
  lt : B < w.heap.size
  gt : w.heap.size < R
section
variable {w : World} {B : Nat} {a : Option Addr} {len cap k R : Nat} {m h p : ByteArray} {va : Option Addr} {n vc : Nat} {L : List Hdr} {X : World}
theorem BQ.next (q : BQ w B a len cap k R m h p va n vc L X) {k' : Nat} {X' : World} (hs : Src X' B a len cap k') (hb : Below B X X') (ha : ApartH B X X') : BQ w B a len cap k' R m h p va n vc L X' :=
  ⟨hs, q.b.trans hb, q.ap.trans ha, q.z.apart ha (by have := q.lt; omega), q.r.of (ha.block R q.r.lt (by have := q.lt; have := q.gt; omega)), q.o.apart ha (by have := q.lt; omega), q.e, q.lt, q.gt⟩
theorem BQ.src (q : BQ w B a len cap k R m h p va n vc L X) (i : Nat) (x : Value) : Src (X.setCell ⟨R, i, none⟩ x) B a len cap k :=
  q.s.below ((Below.refl (B + 1) _).setCell (by have := q.lt; have := q.gt; show B + 1 ≤ R; omega) _)
theorem BQ.bel (q : BQ w B a len cap k R m h p va n vc L X) (i : Nat) (x : Value) : Below B w (X.setCell ⟨R, i, none⟩ x) :=
  q.b.setCell (by have := q.lt; have := q.gt; show B ≤ R; omega) _
theorem BQ.apt (q : BQ w B a len cap k R m h p va n vc L X) (i : Nat) (x : Value) : ApartH B w (X.setCell ⟨R, i, none⟩ x) :=
  q.ap.hfresh (by have := q.gt; omega)
theorem BQ.res (q : BQ w B a len cap k R m h p va n vc L X) (i : Nat) (x : Value) : Four (X.setCell ⟨R, i, none⟩ x) w.heap.size (.string ⟨#[]⟩) (.string ⟨#[]⟩) (.string ⟨#[]⟩) (.slice none 0 0) :=
  q.z.keepB (Nat.lt_succ_self _) ((Below.refl (w.heap.size + 1) _).setCell (by have := q.gt; show w.heap.size + 1 ≤ R; omega) _)
theorem BQ.set0 (q : BQ w B a len cap k R m h p va n vc L X) (x : ByteArray) : BQ w B a len cap k R x h p va n vc L (X.setCell ⟨R, 0, none⟩ (.string x)) :=
  ⟨q.src _ _, q.bel _ _, q.apt _ _, q.res _ _, q.r.set0 x, q.o.putR (own_ne q.r q.o), q.e, q.lt, q.gt⟩
theorem BQ.set1 (q : BQ w B a len cap k R m h p va n vc L X) (x : ByteArray) : BQ w B a len cap k R m x p va n vc L (X.setCell ⟨R, 1, none⟩ (.string x)) :=
  ⟨q.src _ _, q.bel _ _, q.apt _ _, q.res _ _, q.r.set1 x, q.o.putR (own_ne q.r q.o), q.e, q.lt, q.gt⟩
theorem BQ.set2 (q : BQ w B a len cap k R m h p va n vc L X) (x : ByteArray) : BQ w B a len cap k R m h x va n vc L (X.setCell ⟨R, 2, none⟩ (.string x)) :=
  ⟨q.src _ _, q.bel _ _, q.apt _ _, q.res _ _, q.r.set2 x, q.o.putR (own_ne q.r q.o), q.e, q.lt, q.gt⟩
theorem BQ.set3 (q : BQ w B a len cap k R m h p va n vc L X) {ua : Option Addr} {u uc : Nat} {M : List Hdr} (ho : OwnH X (w.heap.size + 1) (.slice ua u uc) M) (hu : u = M.length) : BQ w B a len cap k R m h p ua u uc M (X.setCell ⟨R, 3, none⟩ (.slice ua u uc)) :=
  ⟨q.src _ _, q.bel _ _, q.apt _ _, q.res _ _, q.r.set3 _, ho.putR (own_ne q.r ho), hu, q.lt, q.gt⟩
theorem BQ.grow (q : BQ w B a len cap k R m h p va n vc L X) {X' : World} {v' : Value} {M : List Hdr} (ho : OwnH X' (w.heap.size + 1) v' M) (hb : Below (w.heap.size + 1) X X') (hz : X.heap.size ≤ X'.heap.size) (hk : ∀ b, b < X.heap.size → (Value.slice va n vc).ownBlock ≠ some b → X'.heap[b]? = X.heap[b]?) :
    ∃ ua uc, v' = .slice ua M.length uc ∧ BQ w B a len cap k R m h p ua M.length uc M (X'.setCell ⟨R, 3, none⟩ v') := by
  obtain ⟨ua, uc, rfl⟩ := own_len ho
  refine ⟨ua, uc, rfl, ?_⟩
  have lt := q.lt
  have gt := q.gt
  have r' : RqB X' R m h p (.slice va n vc) := q.r.of (hk R q.r.lt (own_ne q.r q.o))
  have s' : Src X' B a len cap k := q.s.below (hb.mono (by omega))
  have b' : Below B w X' := q.b.trans (hb.mono (by omega))
  have a' : ApartH B w X' := ⟨Nat.le_trans q.ap.size hz, fun b hb' hn => by rw [hb.block b (by omega)]; exact q.ap.block b hb' hn⟩
  have z' : Four X' w.heap.size (.string ⟨#[]⟩) (.string ⟨#[]⟩) (.string ⟨#[]⟩) (.slice none 0 0) := q.z.keepB (Nat.lt_succ_self _) hb
  refine ⟨s'.below ((Below.refl (B + 1) _).setCell (by show B + 1 ≤ R; omega) _), b'.setCell (by show B ≤ R; omega) _, a'.hfresh (by omega), z'.keepB (Nat.lt_succ_self _) ((Below.refl (w.heap.size + 1) _).setCell (by show w.heap.size + 1 ≤ R; omega) _), r'.set3 _, ho.putR (own_ne r' ho), rfl, lt, gt⟩
end
def pathZ (R : Nat) (w : World) : Nat := match w.cell? ⟨R, 2, none⟩ with | some (.string r) => r.size | _ => 0
theorem pathZ_of {w : World} {R : Nat} {m h p : ByteArray} {hv : Value} (k : RqB w R m h p hv) : pathZ R w = p.size := by
  unfold pathZ
  rw [k.four.c2]
/-- The last of it: the request is handed on. -/
theorem BQ.done {w : World} {B : Nat} {a : Option Addr} {len cap k R : Nat} {m h p : ByteArray} {va : Option Addr} {n vc : Nat} {L : List Hdr} {X : World} (q : BQ w B a len cap k R m h p va n vc L X) {K N : Nat} (hK : k ≤ K) (hL : L.length ≤ N) (hm : m.size ≤ 1100) (hh : h.size ≤ 1100) (hp : p.size ≤ 1100) (hs : SmallH L) :
    SomeReq (w.heap.size + 1) N (.returned (.agg #[.string m, .string h, .string p, .slice va n vc])) ((((X.setCell ⟨w.heap.size, 0, none⟩ (.string m)).setCell ⟨w.heap.size, 1, none⟩ (.string h)).setCell ⟨w.heap.size, 2, none⟩ (.string p)).setCell ⟨w.heap.size, 3, none⟩ (.slice va n vc)) ∧ (∃ k', k' ≤ K ∧ Src ((((X.setCell ⟨w.heap.size, 0, none⟩ (.string m)).setCell ⟨w.heap.size, 1, none⟩ (.string h)).setCell ⟨w.heap.size, 2, none⟩ (.string p)).setCell ⟨w.heap.size, 3, none⟩ (.slice va n vc)) B a len cap k') ∧ Below B w ((((X.setCell ⟨w.heap.size, 0, none⟩ (.string m)).setCell ⟨w.heap.size, 1, none⟩ (.string h)).setCell ⟨w.heap.size, 2, none⟩ (.string p)).setCell ⟨w.heap.size, 3, none⟩ (.slice va n vc)) ∧ ApartH B w ((((X.setCell ⟨w.heap.size, 0, none⟩ (.string m)).setCell ⟨w.heap.size, 1, none⟩ (.string h)).setCell ⟨w.heap.size, 2, none⟩ (.string p)).setCell ⟨w.heap.size, 3, none⟩ (.slice va n vc)) := by
  have lt := q.lt
  have e := q.e
  subst e
  exact ⟨⟨m, h, p, va, vc, L, rfl, hm, hh, hp, (((q.o.put (by omega)).put (by omega)).put (by omega)).put (by omega), hL, hs⟩, ⟨k, hK, q.s.below (((((Below.refl (B + 1) _).setCell (by simp; omega) _).setCell (by simp; omega) _).setCell (by simp; omega) _).setCell (by simp; omega) _)⟩, (((q.b.setCell (by simp; omega) _).setCell (by simp; omega) _).setCell (by simp; omega) _).setCell (by simp; omega) _, (((q.ap.hfresh (Nat.le_refl _)).hfresh (Nat.le_refl _)).hfresh (Nat.le_refl _)).hfresh (Nat.le_refl _)⟩
set_option maxRecDepth 100000 in
set_option maxHeartbeats 16000000 in
theorem l5Bent_any (w : World) (B : Nat) (a : Option Addr) (len cap k : Nat) (hs : Src w B a len cap k) (hk : k ≤ 700) (hl2 : len ≤ 1048576) :
    Calls Tryz.prog 42 #[.pointer (some ⟨B, 0, none⟩)] w fun e w' => SomeReq (w.heap.size + 1) 21 e w' ∧ (∃ k', k' ≤ k + 3300 ∧ Src w' B a len cap k') ∧ Below B w w' ∧ ApartH B w w' := by
  have hlt := hs.lt
  have HS : Hid (Src (w.alloc (.cells #[.string ⟨#[]⟩, .string ⟨#[]⟩, .string ⟨#[]⟩, .slice none 0 0] 42)) B a len cap k) := hs.alloc _
  have HB : Hid (Below B w (w.alloc (.cells #[.string ⟨#[]⟩, .string ⟨#[]⟩, .string ⟨#[]⟩, .slice none 0 0] 42))) := (Below.refl _ _).alloc (by omega) _
  have HA : Hid (ApartH B w (w.alloc (.cells #[.string ⟨#[]⟩, .string ⟨#[]⟩, .string ⟨#[]⟩, .slice none 0 0] 42))) := ApartH.alloc B w _
  have HR : Hid (Four (w.alloc (.cells #[.string ⟨#[]⟩, .string ⟨#[]⟩, .string ⟨#[]⟩, .slice none 0 0] 42)) w.heap.size (.string ⟨#[]⟩) (.string ⟨#[]⟩) (.string ⟨#[]⟩) (.slice none 0 0)) := Four.new w _ _ _ _ _
  have hz : w.heap.size + 1 ≤ (w.alloc (.cells #[.string ⟨#[]⟩, .string ⟨#[]⟩, .string ⟨#[]⟩, .slice none 0 0] 42)).heap.size := by simp
  clear hs
  have H0 := l5Draw_any _ B a len cap k HS.out (by omega) hl2
  go_enter Tryz.func42, Tryz.ntmps42
  go_wp2_with fail
  refine H0.mono ?_
  rintro e w1 ⟨⟨m, h, p, va, vc, L, rfl, hm, hh, hp, ho, hL, hsm⟩, ⟨k1, hk1, hs1⟩, hb1, ha1⟩
  obtain ⟨n, hn⟩ : ∃ n, Hid (n = L.length) := ⟨_, rfl⟩
  rw [← hn.out] at ho ⊢
  have HL : Hid (SmallH L) := hsm
  have hz1 : w.heap.size + 1 ≤ w1.heap.size := Nat.le_trans hz ha1.size
  have al : ApartH B w1 (w1.alloc (.cells #[.string m, .string h, .string p, .slice va n vc] 42)) := ApartH.alloc B w1 _
  have bl : Below w1.heap.size w1 (w1.alloc (.cells #[.string m, .string h, .string p, .slice va n vc] 42)) := (Below.refl _ _).alloc (Nat.le_refl _) _
  have Q0 : Hid (BQ w B a len cap k1 w1.heap.size m h p va n vc L (w1.alloc (.cells #[.string m, .string h, .string p, .slice va n vc] 42))) :=
    ⟨hs1.alloc _, (HB.out.trans hb1).trans (bl.mono (by omega)), (HA.out.trans ha1).trans al, (HR.out.apart ha1 (by omega)).apart al (by omega), RqB.new w1 m h p _, (ho.below bl).lower (by omega), hn.out, hlt, by omega⟩
  clear hs1 hb1 ha1 ho hsm HS HB HA HR hz al bl H0
  obtain ⟨v1, hv1⟩ : ∃ X, Hid (X = w1.alloc (.cells #[.string m, .string h, .string p, .slice va n vc] 42)) := ⟨_, rfl⟩
  have Q1 : Hid (BQ w B a len cap k1 w1.heap.size m h p va n vc L v1) := by rw [hv1.out]; exact Q0.out
  clear Q0
  have H1 := l1Next_h v1 B a len cap k1 14 Q1.out.s (by omega) (by omega) (by omega) hl2
  go_wp2_with fail
  rw [← hv1.out]
  clear hv1
  generalize w1.heap.size = R at *
  clear w1
  refine H1.mono ?_
  rintro e w2 ⟨⟨x, hx0, hx1, rfl⟩, hs2, hb2, ha2⟩
  have Q2 : Hid (BQ w B a len cap (k1 + 1) R m h p va n vc L w2) := Q1.out.next hs2 hb2 ha2
  clear hs2 hb2 ha2 H1 Q1
  clear v1
  have hxs : x = 0 ∨ x = 1 ∨ x = 2 ∨ x = 3 ∨ x = 4 ∨ x = 5 ∨ 6 ≤ x := by omega
  rcases hxs with rfl | rfl | rfl | rfl | rfl | rfl | hx6
  · have H3 := l1Word_h w2 B a len cap (k1 + 1) Q2.out.s ([⟨#[80, 79, 83, 84]⟩, ⟨#[103, 101, 116]⟩, ⟨#[]⟩] : List ByteArray) 3 rfl (by omega) (by omega) (by omega) hl2
    simp only [List.map_cons, List.map_nil] at H3
    go_wp2_with fail
    refine H3.mono ?_
    rintro e w3 ⟨⟨t, ht, rfl⟩, hs3, hb3, ha3⟩
    have htz := smallH_of ht (by decide)
    have Q3 : Hid (BQ w B a len cap (k1 + 1 + 1) R m h p va n vc L w3) := Q2.out.next hs3 hb3 ha3
    have y0 := Q3.out.r.four.c0
    have yf := Q3.out.r.four.fr 0
    have Q4 : Hid (BQ w B a len cap (k1 + 1 + 1) R t h p va n vc L (w3.setCell ⟨R, 0, none⟩ (.string t))) := Q3.out.set0 t
    obtain ⟨w4, hw4⟩ : ∃ X, Hid (X = w3.setCell ⟨R, 0, none⟩ (.string t)) := ⟨_, rfl⟩
    rw [← hw4.out] at Q4
    clear hs3 hb3 ha3 H3 ht Q2 Q3
    go_upto_region 17 with fail
    rw [← hw4.out]
    clear hw4 y0 yf
    clear w3
    have z0 := Q4.out.z.c0
    have z1 := Q4.out.z.c1
    have z2 := Q4.out.z.c2
    have z3 := Q4.out.z.c3
    have zf0 := Q4.out.z.fr 0
    have zf1 := Q4.out.z.fr 1
    have zf2 := Q4.out.z.fr 2
    have zf3 := Q4.out.z.fr 3
    have y0 := Q4.out.r.four.c0
    have y1 := Q4.out.r.four.c1
    have y2 := Q4.out.r.four.c2
    have y3 := Q4.out.r.four.c3
    go_wp2_with fail
    refine bodyPost_ret (v := .agg #[.string t, .string h, .string p, .slice va n vc]) ?_ rfl (Q4.out.done (K := k + 3300) (N := 21) (by omega) (by omega) htz hh hp HL.out)
    simp [results, Tryz.results42, go_sem, z0, z1, z2, z3]
  · have H3 := l1Word_h w2 B a len cap (k1 + 1) Q2.out.s ([⟨#[]⟩, ⟨#[97, 32, 98]⟩, ⟨#[97, 47, 98]⟩, ⟨#[97, 46, 99, 111, 109, 58, 56, 48]⟩] : List ByteArray) 4 rfl (by omega) (by omega) (by omega) hl2
    simp only [List.map_cons, List.map_nil] at H3
    go_wp2_with fail
    refine H3.mono ?_
    rintro e w3 ⟨⟨t, ht, rfl⟩, hs3, hb3, ha3⟩
    have htz := smallH_of ht (by decide)
    have Q3 : Hid (BQ w B a len cap (k1 + 1 + 1) R m h p va n vc L w3) := Q2.out.next hs3 hb3 ha3
    have y1 := Q3.out.r.four.c1
    have yf := Q3.out.r.four.fr 1
    have Q4 : Hid (BQ w B a len cap (k1 + 1 + 1) R m t p va n vc L (w3.setCell ⟨R, 1, none⟩ (.string t))) := Q3.out.set1 t
    obtain ⟨w4, hw4⟩ : ∃ X, Hid (X = w3.setCell ⟨R, 1, none⟩ (.string t)) := ⟨_, rfl⟩
    rw [← hw4.out] at Q4
    clear hs3 hb3 ha3 H3 ht Q2 Q3
    go_upto_region 17 with fail
    rw [← hw4.out]
    clear hw4 y1 yf
    clear w3
    have z0 := Q4.out.z.c0
    have z1 := Q4.out.z.c1
    have z2 := Q4.out.z.c2
    have z3 := Q4.out.z.c3
    have zf0 := Q4.out.z.fr 0
    have zf1 := Q4.out.z.fr 1
    have zf2 := Q4.out.z.fr 2
    have zf3 := Q4.out.z.fr 3
    have y0 := Q4.out.r.four.c0
    have y1 := Q4.out.r.four.c1
    have y2 := Q4.out.r.four.c2
    have y3 := Q4.out.r.four.c3
    go_wp2_with fail
    refine bodyPost_ret (v := .agg #[.string m, .string t, .string p, .slice va n vc]) ?_ rfl (Q4.out.done (K := k + 3300) (N := 21) (by omega) (by omega) hm htz hp HL.out)
    simp [results, Tryz.results42, go_sem, z0, z1, z2, z3]
  · have H3 := l1Word_h w2 B a len cap (k1 + 1) Q2.out.s ([⟨#[]⟩, ⟨#[120]⟩, ⟨#[47, 97, 32, 98]⟩, ⟨#[47, 1]⟩, ⟨#[47, 97, 34, 98]⟩] : List ByteArray) 5 rfl (by omega) (by omega) (by omega) hl2
    simp only [List.map_cons, List.map_nil] at H3
    go_wp2_with fail
    refine H3.mono ?_
    rintro e w3 ⟨⟨t, ht, rfl⟩, hs3, hb3, ha3⟩
    have htz := smallH_of ht (by decide)
    have Q3 : Hid (BQ w B a len cap (k1 + 1 + 1) R m h p va n vc L w3) := Q2.out.next hs3 hb3 ha3
    have y2 := Q3.out.r.four.c2
    have yf := Q3.out.r.four.fr 2
    have Q4 : Hid (BQ w B a len cap (k1 + 1 + 1) R m h t va n vc L (w3.setCell ⟨R, 2, none⟩ (.string t))) := Q3.out.set2 t
    obtain ⟨w4, hw4⟩ : ∃ X, Hid (X = w3.setCell ⟨R, 2, none⟩ (.string t)) := ⟨_, rfl⟩
    rw [← hw4.out] at Q4
    clear hs3 hb3 ha3 H3 ht Q2 Q3
    go_upto_region 17 with fail
    rw [← hw4.out]
    clear hw4 y2 yf
    clear w3
    have z0 := Q4.out.z.c0
    have z1 := Q4.out.z.c1
    have z2 := Q4.out.z.c2
    have z3 := Q4.out.z.c3
    have zf0 := Q4.out.z.fr 0
    have zf1 := Q4.out.z.fr 1
    have zf2 := Q4.out.z.fr 2
    have zf3 := Q4.out.z.fr 3
    have y0 := Q4.out.r.four.c0
    have y1 := Q4.out.r.four.c1
    have y2 := Q4.out.r.four.c2
    have y3 := Q4.out.r.four.c3
    go_wp2_with fail
    refine bodyPost_ret (v := .agg #[.string m, .string h, .string t, .slice va n vc]) ?_ rfl (Q4.out.done (K := k + 3300) (N := 21) (by omega) (by omega) hm hh htz HL.out)
    simp [results, Tryz.results42, go_sem, z0, z1, z2, z3]
  · have y3 := Q2.out.r.four.c3
    have yf := Q2.out.r.four.fr 3
    have hHn : (⟨#[104, 79, 83, 84]⟩ : ByteArray).size ≤ 1100 := by decide
    have hHv : (⟨#[113]⟩ : ByteArray).size ≤ 1100 := by decide
    have HL2 : Hid (SmallH (L ++ [⟨⟨#[104, 79, 83, 84]⟩, ⟨#[113]⟩⟩])) := HL.out.snoc hHn hHv
    have hzz : w.heap.size + 1 ≤ w2.heap.size := by have := Q2.out.z.lt; omega
    go_upto_region 17 with (at_builtin; refine wpList_append_hdr_g _ rfl (.tmp 30) (.tmp 32) rfl (w.heap.size + 1) _ L ⟨#[104, 79, 83, 84]⟩ ⟨#[113]⟩ rfl (by simp [go_sem]) Q2.out.o (by omega) hzz ?_; intro v6 w6 HO6 hb6 hz6 hk6; obtain ⟨ua, uc, rfl, q6⟩ := Q2.out.grow HO6 hb6 hz6 hk6; have r6 := Q2.out.r.of (hk6 R Q2.out.r.lt (own_ne Q2.out.r Q2.out.o)); obtain ⟨M, hM⟩ : ∃ M : List Hdr, Hid (M = L ++ [(⟨⟨#[104, 79, 83, 84]⟩, ⟨#[113]⟩⟩ : Hdr)]) := ⟨_, rfl⟩; rw [← hM.out] at q6 HL2 ⊢; have hMl : M.length ≤ 21 := (by rw [hM.out]; simp; omega); obtain ⟨un, hun⟩ : ∃ n, Hid (n = M.length) := ⟨_, rfl⟩; rw [← hun.out] at q6 ⊢; have Q6 : Hid (BQ w B a len cap (k1 + 1) R m h p ua un uc M (w6.setCell ⟨R, 3, none⟩ (.slice ua un uc))) := q6; have y36 := r6.four.c3; have yf6 := r6.four.fr 3; clear q6 HO6 hb6 hz6 hk6 r6 hM)
    obtain ⟨w7, hw7⟩ : ∃ X, Hid (X = w6.setCell ⟨R, 3, none⟩ (.slice ua un uc)) := ⟨_, rfl⟩
    rw [← hw7.out] at Q6
    clear y3 yf Q2
    rw [← hw7.out]
    clear hw7 y36 yf6
    try clear w6
    have z0 := Q6.out.z.c0
    have z1 := Q6.out.z.c1
    have z2 := Q6.out.z.c2
    have z3 := Q6.out.z.c3
    have zf0 := Q6.out.z.fr 0
    have zf1 := Q6.out.z.fr 1
    have zf2 := Q6.out.z.fr 2
    have zf3 := Q6.out.z.fr 3
    have y0 := Q6.out.r.four.c0
    have y1 := Q6.out.r.four.c1
    have y2 := Q6.out.r.four.c2
    have y3 := Q6.out.r.four.c3
    go_wp2_with fail
    refine bodyPost_ret (v := .agg #[.string m, .string h, .string p, .slice ua un uc]) ?_ rfl (Q6.out.done (K := k + 3300) (N := 21) (by omega) hMl hm hh hp HL2.out)
    simp [results, Tryz.results42, go_sem, z0, z1, z2, z3]
  · go_wp2_with fail
    refine (l4Bent_any w2 B a len cap (k1 + 1) Q2.out.s (by omega) hl2).mono ?_
    rintro e w3 ⟨⟨v3, M, rfl, ho3, hM, hsm⟩, ⟨k3, hk3, hs3⟩, hb3, ha3⟩
    obtain ⟨ua, uc, rfl⟩ := own_len ho3
    have hzz : w.heap.size + 1 ≤ w2.heap.size := by have := Q2.out.z.lt; omega
    have Q3 : Hid (BQ w B a len cap k3 R m h p va n vc L w3) := Q2.out.next hs3 hb3 ha3
    have HM : Hid (SmallH M) := hsm
    have y3 := Q3.out.r.four.c3
    have yf := Q3.out.r.four.fr 3
    have Q4 : Hid (BQ w B a len cap k3 R m h p ua M.length uc M (w3.setCell ⟨R, 3, none⟩ (.slice ua M.length uc))) := Q3.out.set3 (ho3.lower hzz) rfl
    clear hs3 hb3 ha3 ho3 hsm Q2 Q3
    generalize hun : M.length = un at *
    obtain ⟨w4, hw4⟩ : ∃ X, Hid (X = w3.setCell ⟨R, 3, none⟩ (.slice ua un uc)) := ⟨_, rfl⟩
    rw [← hw4.out] at Q4
    go_upto_region 17 with fail
    rw [← hw4.out]
    clear hw4 y3 yf
    clear w3
    have z0 := Q4.out.z.c0
    have z1 := Q4.out.z.c1
    have z2 := Q4.out.z.c2
    have z3 := Q4.out.z.c3
    have zf0 := Q4.out.z.fr 0
    have zf1 := Q4.out.z.fr 1
    have zf2 := Q4.out.z.fr 2
    have zf3 := Q4.out.z.fr 3
    have y0 := Q4.out.r.four.c0
    have y1 := Q4.out.r.four.c1
    have y2 := Q4.out.r.four.c2
    have y3 := Q4.out.r.four.c3
    go_wp2_with fail
    refine bodyPost_ret (v := .agg #[.string m, .string h, .string p, .slice ua un uc]) ?_ rfl (Q4.out.done (K := k + 3300) (N := 21) (by omega) (by omega) hm hh hp HM.out)
    simp [results, Tryz.results42, go_sem, z0, z1, z2, z3]
  · have H3 := l1Pick_h w2 B a len cap (k1 + 1) Q2.out.s [100, 101] 2 rfl (by omega) (by omega) (by omega) hl2
    simp only [List.map_cons, List.map_nil] at H3
    go_wp2_with fail
    refine H3.mono ?_
    rintro e w3 ⟨⟨q, hq, rfl⟩, hs3, hb3, ha3⟩
    have hqb : 100 ≤ q ∧ q ≤ 101 := by simp at hq; omega
    obtain ⟨hq0, hq1⟩ := hqb
    have Q3 : Hid (BQ w B a len cap (k1 + 1 + 1) R m h p va n vc L w3) := Q2.out.next hs3 hb3 ha3
    clear hs3 hb3 ha3 hq H3 Q2
    go_wp2_with fail
    go_loopw [46] (fun _ wr => ∃ r : ByteArray, r.size ≤ 1100 ∧ BQ w B a len cap (k1 + 1 + 1) R m h r va n vc L wr) (fun _ wr => 1200 - pathZ R wr)
    case atStart => exact ⟨p, hp, Q3.out⟩
    case round =>
      obtain ⟨r, hr, hqr⟩ := hrel
      have QR : Hid (BQ w B a len cap (k1 + 1 + 1) R m h r va n vc L wr) := hqr
      have HZ0 : Hid (pathZ R wr = r.size) := pathZ_of hqr.r
      have y2 := hqr.r.four.c2
      have yf := hqr.r.four.fr 2
      clear hqr Q3
      by_cases hlt2 : (r.size : Int) < q
      · have hadd := fun w => run_string_add_sum (P := Tryz.prog) (w := w) r ⟨#[112]⟩ (by have : (⟨#[112]⟩ : ByteArray).size = 1 := rfl; omega)
        have HZ : Hid ((r ++ (⟨#[112]⟩ : ByteArray)).size = r.size + 1) := by show _ = _; simp [ByteArray.size_append]; rfl
        generalize r ++ (⟨#[112]⟩ : ByteArray) = r' at *
        have Q5 : Hid (BQ w B a len cap (k1 + 1 + 1) R m h r' va n vc L (wr.setCell ⟨R, 2, none⟩ (.string r'))) := QR.out.set2 r'
        go_wp2_with fail
        go_roundw
        case rel => exact ⟨r', by have := HZ.out; omega, Q5.out⟩
        case measure => rw [HZ0.out, pathZ_of Q5.out.r]; have := HZ.out; omega
      · clear HZ0 yf
        skip
        have z0 := QR.out.z.c0
        have z1 := QR.out.z.c1
        have z2 := QR.out.z.c2
        have z3 := QR.out.z.c3
        have zf0 := QR.out.z.fr 0
        have zf1 := QR.out.z.fr 1
        have zf2 := QR.out.z.fr 2
        have zf3 := QR.out.z.fr 3
        have y0 := QR.out.r.four.c0
        have y1 := QR.out.r.four.c1
        have y3 := QR.out.r.four.c3
        go_wp2_with fail
        refine bodyPost_ret (v := .agg #[.string m, .string h, .string r, .slice va n vc]) ?_ rfl (QR.out.done (K := k + 3300) (N := 21) (by omega) (by omega) hm hh hr HL.out)
        simp [results, Tryz.results42, go_sem, z0, z1, z2, z3]
  · have n0 : ¬ x = 0 := by omega
    have n1 : ¬ x = 1 := by omega
    have n2 : ¬ x = 2 := by omega
    have n3 : ¬ x = 3 := by omega
    have n4 : ¬ x = 4 := by omega
    have n5 : ¬ x = 5 := by omega
    have z0 := Q2.out.z.c0
    have z1 := Q2.out.z.c1
    have z2 := Q2.out.z.c2
    have z3 := Q2.out.z.c3
    have zf0 := Q2.out.z.fr 0
    have zf1 := Q2.out.z.fr 1
    have zf2 := Q2.out.z.fr 2
    have zf3 := Q2.out.z.fr 3
    have y0 := Q2.out.r.four.c0
    have y1 := Q2.out.r.four.c1
    have y2 := Q2.out.r.four.c2
    have y3 := Q2.out.r.four.c3
    go_wp2_with fail
    refine bodyPost_ret (v := .agg #[.string m, .string h, .string p, .slice va n vc]) ?_ rfl (Q2.out.done (K := k + 3300) (N := 21) (by omega) (by omega) hm hh hp HL.out)
    simp [results, Tryz.results42, go_sem, z0, z1, z2, z3]
end Go.Proofs.YtmnblligifgcjaaGreatDoor
/-
  Rows of texts: the laws' own helpers over them.
-/
namespace Go.Proofs.YtmnblligifgcjaaGreatDoor
open Go.ChangeShapes Go.WideShapes Go.ChangeAt Go.RowKit Go.Sort
def TAt (w : World) (b off : Nat) (l : List ByteArray) : Prop := ∀ (i : Nat) c, l[i]? = some c → w.cell? ⟨b, off + i, none⟩ = some (.string c)
theorem TAt.keep {w w' : World} {b off : Nat} {l : List ByteArray} (h : TAt w b off l) (hb : Below w.heap.size w w') : TAt w' b off l := by
  intro i c hc
  have := h i c hc
  rw [hb.cell (block_lt_of_cell this)]; exact this
def TIn (w : World) (a : Option Addr) (l : List ByteArray) : Prop := l = [] ∨ ∃ b off, a = some ⟨b, off, none⟩ ∧ TAt w b off l
theorem TIn.keep {w w' : World} {a : Option Addr} {l : List ByteArray} (h : TIn w a l) (hb : Below w.heap.size w w') : TIn w' a l := by
  rcases h with h | ⟨b, off, e, h⟩
  · exact .inl h
  · exact .inr ⟨b, off, e, h.keep hb⟩
structure TMine (W : World) (B : Nat) (l : List ByteArray) : Prop where
  at0 : TAt W B 0 l
  free : ∀ o, o < l.length → W.frozen? ⟨B, o, none⟩ = false
  lt : B < W.heap.size
theorem TMine.keep {W W' : World} {B : Nat} {l : List ByteArray} (h : TMine W B l) (hb : Below W.heap.size W W') : TMine W' B l :=
  ⟨h.at0.keep hb, fun o ho => by rw [hb.frozen (p := ⟨B, o, none⟩) h.lt]; exact h.free o ho, Nat.lt_of_lt_of_le h.lt hb.size⟩
theorem TMine.in {W : World} {B : Nat} {l : List ByteArray} (h : TMine W B l) : TIn W (some ⟨B, 0, none⟩) l := .inr ⟨B, 0, rfl, h.at0⟩
/-- How much room is left behind the texts; -1: none. -/
def szTs (left : Int) : List ByteArray → Int
  | [] => left
  | r :: l => if left - (r.size : Int) < 0 then -1 else szTs (left - (r.size : Int)) l
def szTL (left : Int) (l : List ByteArray) : Int := if left - (l.length : Int) < 0 then -1 else szTs (left - (l.length : Int)) l
theorem szTs_le (l : List ByteArray) : ∀ left, szTs left l ≤ left ∨ szTs left l = -1 := by
  induction l with
  | nil => intro left; exact .inl (Int.le_refl _)
  | cons r l ih =>
    intro left
    rw [szTs]
    split
    · exact .inr rfl
    · rcases ih (left - (r.size : Int)) with h | h
      · left; omega
      · exact .inr h
theorem szTL_room {left : Int} {l : List ByteArray} (hl : left ≤ 1048576) (hz : ¬ szTL left l < 0) : l.length ≤ 1048576 ∧ ∀ x ∈ l, x.size ≤ 1048576 := by
  unfold szTL at hz
  by_cases c : left - (l.length : Int) < 0
  · rw [if_pos c] at hz; omega
  · rw [if_neg c] at hz
    refine ⟨by omega, ?_⟩
    have : ∀ (l : List ByteArray) (left : Int), left ≤ 1048576 → ¬ szTs left l < 0 → ∀ x ∈ l, x.size ≤ 1048576 := fun l => by
      induction l with
      | nil => intro _ _ _ x hx; cases hx
      | cons r l ih =>
        intro left h1 h2 x hx
        rw [szTs] at h2
        by_cases c : left - (r.size : Int) < 0
        · rw [if_pos c] at h2; omega
        · rw [if_neg c] at h2
          rcases List.mem_cons.1 hx with rfl | hx
          · omega
          · exact ih _ (by omega) h2 x hx
    exact this l _ (by omega) hz
theorem infoTextR : (Tryz.prog.info? 9).map (fun i => (i.zero, i.size, i.bytes)) = some (some (.string ⟨#[]⟩), 1, 16) := by kernel_rfl
theorem TAt.put {w : World} {G : Nat} {l : List ByteArray} {k n : Nat} {c : ByteArray} (h : TAt w G 0 (l.take k)) (hr : l[k]? = some c) (hm : HRoom w G n) (hk : k < n) : TAt (w.setCell ⟨G, k, none⟩ (.string c)) G 0 (l.take (k + 1)) := by
  intro i q hq
  have hi : i < k + 1 := by
    have := (List.getElem?_eq_some_iff.1 hq).1
    simp at this; omega
  rw [List.getElem?_take_of_lt hi] at hq
  simp only [Nat.zero_add]
  by_cases e : i = k
  · subst e
    rw [hr] at hq
    obtain rfl := Option.some.inj hq
    obtain ⟨⟨u0, g0⟩, _⟩ := hm i (by omega)
    exact World.cell?_setCell_same _ _ _ g0
  · have hq2 : (l.take k)[i]? = some q := by rw [List.getElem?_take_of_lt (by omega)]; exact hq
    have a1 := h i q hq2
    simp only [Nat.zero_add] at a1
    rw [World.cell?_setCell_other _ _ _ _ (hoff_ne (by omega))]; exact a1
end Go.Proofs.YtmnblligifgcjaaGreatDoor
/-
  The draw of a request and of names.
-/
namespace Go.Proofs.YtmnblligifgcjaaGreatDoor
open Go.ChangeShapes Go.WideShapes Go.ChangeAt Go.RowKit
theorem OwnS.apart {B : Nat} {w w' : World} {base : Nat} {v : Value} {l : List ByteArray} (h : OwnS w base v l) (ha : ApartH B w w') (hB : B < base) : OwnS w' base v l := by
  obtain ⟨h1, h2⟩ := h
  refine ⟨h1, ?_⟩
  rcases h2 with h2 | ⟨g, c, cur, e, hg, hh, hrest⟩
  · exact .inl h2
  · exact .inr ⟨g, c, cur, e, hg, by rw [ha.block g (Array.getElem?_eq_some_iff.1 hh).1 (by omega)]; exact hh, hrest⟩
theorem OwnS.put {w : World} {base B o : Nat} {v x : Value} {l : List ByteArray} (h : OwnS w base v l) (hB : B < base) : OwnS (w.setCell ⟨B, o, none⟩ x) base v l := by
  obtain ⟨h1, h2⟩ := h
  refine ⟨h1, ?_⟩
  rcases h2 with h2 | ⟨g, c, cur, e, hg, hh, hrest⟩
  · exact .inl h2
  · exact .inr ⟨g, c, cur, e, hg, by rw [setCell_block (by show g ≠ B; omega)]; exact hh, hrest⟩
theorem OwnS.made0 (w : World) (base : Nat) (hb : base ≤ w.heap.size) : OwnS (w.alloc (.cells #[] 9)) base (.slice (some ⟨w.heap.size, 0, none⟩) 0 0) [] := World.ownsRow_made w #[] 0 hb (by unfold maxLen; omega) rfl
theorem OwnS.tin {w : World} {base : Nat} {v : Value} {l : List ByteArray} (h : OwnS w base v l) : ∃ a c, v = .slice a l.length c ∧ TIn w a l := by
  by_cases hl : l = []
  · subst hl
    obtain ⟨_, h1 | ⟨g, c, cur, rfl, _⟩⟩ := h
    · exact ⟨none, 0, h1.1, .inl rfl⟩
    · exact ⟨_, c, rfl, .inl rfl⟩
  · obtain ⟨g, c, rfl⟩ := h.isS hl
    exact ⟨_, c, rfl, .inr ⟨g, 0, rfl, fun i x hx => by rw [Nat.zero_add]; exact h.cellAt i x hx⟩⟩
def SmallT (L : List ByteArray) : Prop := ∀ x ∈ L, x.size ≤ 1100
theorem SmallT.nil : SmallT [] := fun r h => by simp at h
theorem SmallT.snoc {L : List ByteArray} {x : ByteArray} (h : SmallT L) (h1 : x.size ≤ 1100) : SmallT (L ++ [x]) := fun q hq => by
  rcases List.mem_append.1 hq with hq | hq
  · exact h q hq
  · simp only [List.mem_singleton] at hq; subst hq; exact h1
/-- A drawn request and drawn names. -/
def SomeFull (base : Nat) (e : Ending) (w : World) : Prop := ∃ m h p va vc L na nc T, e = .returned (.tuple #[.agg #[.string m, .string h, .string p, .slice va (List.length L) vc], .slice na (List.length T) nc]) ∧ m.size ≤ 1100 ∧ h.size ≤ 1100 ∧ p.size ≤ 1100 ∧ OwnH w base (.slice va (List.length L) vc) L ∧ L.length ≤ 21 ∧ SmallH L ∧ OwnS w base (.slice na (List.length T) nc) T ∧ T.length ≤ 5 ∧ SmallT T
set_option maxRecDepth 100000 in
set_option maxHeartbeats 8000000 in
theorem drawFullKey_any (w : World) (a : Option Addr) (len cap : Nat) (hc : CodeRow w w.heap.size a len) (hl2 : len ≤ 1048576) :
    Calls Tryz.prog 17 #[.slice a len cap] w fun e w' => SomeFull w.heap.size e w' ∧ Below w.heap.size w w' := by
  have al : Below w.heap.size w (w.alloc (.cells #[.string ⟨#[]⟩, .string ⟨#[]⟩, .string ⟨#[]⟩, .slice none 0 0] 42)) := (Below.refl _ _).alloc (Nat.le_refl _) _
  have ez : (w.alloc (.cells #[.string ⟨#[]⟩, .string ⟨#[]⟩, .string ⟨#[]⟩, .slice none 0 0] 42)).heap.size = w.heap.size + 1 := by simp
  have HZ0 : Hid (Four (w.alloc (.cells #[.string ⟨#[]⟩, .string ⟨#[]⟩, .string ⟨#[]⟩, .slice none 0 0] 42)) w.heap.size (.string ⟨#[]⟩) (.string ⟨#[]⟩) (.string ⟨#[]⟩) (.slice none 0 0)) := Four.new w _ _ _ _ _
  have H1 := l1Source_any (w.alloc (.cells #[.string ⟨#[]⟩, .string ⟨#[]⟩, .string ⟨#[]⟩, .slice none 0 0] 42)) a len cap ((hc.below al).mono al.size)
  rw [ez] at H1
  have HAL : Hid (Below w.heap.size w (w.alloc (.cells #[.string ⟨#[]⟩, .string ⟨#[]⟩, .string ⟨#[]⟩, .slice none 0 0] 42))) := al
  clear hc al ez
  go_enter Tryz.func17, Tryz.ntmps17
  go_wp2_with fail
  refine H1.mono ?_
  rintro e w1 ⟨rfl, hs1, hb1⟩
  have hlt1 := hs1.lt
  have HS1 : Hid (Src (w1.alloc (.cells #[] 9)) (w.heap.size + 1) a len cap 0) := hs1.alloc _
  have HB1 : Hid (Below w.heap.size w (w1.alloc (.cells #[] 9))) := (HAL.out.trans (hb1.mono (Nat.le_succ _))).alloc (by omega) _
  have HZ1 : Hid (Four (w1.alloc (.cells #[] 9)) w.heap.size (.string ⟨#[]⟩) (.string ⟨#[]⟩) (.string ⟨#[]⟩) (.slice none 0 0)) := (HZ0.out.keepB (Nat.lt_succ_self _) hb1).keep ((Below.refl _ _).alloc (Nat.le_refl _) _)
  have HO1 : Hid (OwnS (w1.alloc (.cells #[] 9)) (w.heap.size + 2) (.slice (some ⟨w1.heap.size, 0, none⟩) 0 0) []) := OwnS.made0 w1 _ (by omega)
  obtain ⟨v1, hv1⟩ : ∃ X, Hid (X = w1.alloc (.cells #[] 9)) := ⟨_, rfl⟩
  rw [← hv1.out] at HS1 HB1 HZ1 HO1
  have H2 := l1Pick_h v1 (w.heap.size + 1) a len cap 0 HS1.out [0, 1, 2, 2, 4, 5] 6 rfl (by omega) (by omega) (by omega) hl2
  simp only [List.map_cons, List.map_nil] at H2
  clear hs1 hb1 H1 HAL HZ0
  go_upto_region 3 with fail
  rw [← hv1.out]
  clear hv1
  generalize w1.heap.size = G at *
  clear w1
  go_wp2_with fail
  refine H2.mono ?_
  rintro e w2 ⟨⟨q, hq, rfl⟩, hs2, hb2, ha2⟩
  obtain ⟨j0, rfl, hj0⟩ : ∃ j : Nat, q = (j : Int) ∧ j ≤ 5 := ⟨q.toNat, by simp at hq; omega, by simp at hq; omega⟩
  have HS2 : Hid (Src w2 (w.heap.size + 1) a len cap 1) := hs2
  have HB2 : Hid (Below w.heap.size w w2) := HB1.out.trans (hb2.mono (Nat.le_succ _))
  have HZ2 : Hid (Four w2 w.heap.size (.string ⟨#[]⟩) (.string ⟨#[]⟩) (.string ⟨#[]⟩) (.slice none 0 0)) := HZ1.out.keepB (Nat.lt_succ_self _) hb2
  have HO2 : Hid (OwnS w2 (w.heap.size + 2) (.slice (some ⟨G, 0, none⟩) 0 0) []) := HO1.out.apart ha2 (by omega)
  clear hs2 hb2 ha2 hq H2 HS1 HB1 HZ1 HO1
  go_wp2_with fail
  go_loopw [5, 6] (fun v x wr => ∃ (j : Nat) (L : List ByteArray) (k' : Nat), x = .int .i64 (j : Int) ∧ L.length + j ≤ 5 ∧ SmallT L ∧ OwnS wr (w.heap.size + 2) v L ∧ k' ≤ 1 + L.length ∧ Src wr (w.heap.size + 1) a len cap k' ∧ Below w.heap.size w wr ∧ Four wr w.heap.size (.string ⟨#[]⟩) (.string ⟨#[]⟩) (.string ⟨#[]⟩) (.slice none 0 0)) (fun _ x _ => (intOf x).toNat)
  case atStart => exact ⟨j0, [], 1, rfl, by simpa using hj0, SmallT.nil, HO2.out, by simp, HS2.out, HB2.out, HZ2.out⟩
  case round =>
    obtain ⟨j, L, k', rfl, hj, hL, hO, hk', hS, hB, hZ⟩ := hrel
    have KO : Hid (OwnS wr (w.heap.size + 2) u5 L) := hO
    have KL : Hid (SmallT L) := hL
    have KS : Hid (Src wr (w.heap.size + 1) a len cap k') := hS
    have KB : Hid (Below w.heap.size w wr) := hB
    have KZ : Hid (Four wr w.heap.size (.string ⟨#[]⟩) (.string ⟨#[]⟩) (.string ⟨#[]⟩) (.slice none 0 0)) := hZ
    clear hO hL hS hB hZ HS2 HB2 HZ2 HO2
    by_cases hj0 : 0 < j
    · have g : 0 < (j : Int) := by omega
      have H3 := l1Word_h wr (w.heap.size + 1) a len cap k' KS.out ([⟨#[65, 99, 99, 101, 112, 116]⟩, ⟨#[120, 45, 97]⟩, ⟨#[65, 99, 99, 101, 112, 116, 45, 76, 97, 110, 103, 117, 97, 103, 101]⟩, ⟨#[65, 99, 99, 101, 112, 116]⟩, ⟨#[120, 45, 97]⟩, ⟨#[86, 97, 114, 121]⟩, ⟨#[97, 32, 98]⟩] : List ByteArray) 7 rfl (by omega) (by omega) (by omega) hl2
      simp only [List.map_cons, List.map_nil] at H3
      go_wp2_with fail
      refine H3.mono ?_
      rintro e w5 ⟨⟨t, ht, rfl⟩, hs5, hb5, ha5⟩
      have htz := smallH_of ht (by decide)
      have KO5 : Hid (OwnS w5 (w.heap.size + 2) u5 L) := KO.out.apart ha5 (by omega)
      have KS5 : Hid (Src w5 (w.heap.size + 1) a len cap (k' + 1)) := hs5
      have KB5 : Hid (Below w.heap.size w w5) := KB.out.trans (hb5.mono (Nat.le_succ _))
      have KZ5 : Hid (Four w5 w.heap.size (.string ⟨#[]⟩) (.string ⟨#[]⟩) (.string ⟨#[]⟩) (.slice none 0 0)) := KZ.out.keepB (Nat.lt_succ_self _) hb5
      have KL5 : Hid (SmallT (L ++ [t])) := KL.out.snoc htz
      have hz5 : w.heap.size + 2 ≤ w5.heap.size := by have := hs5.lt; omega
      clear hs5 hb5 ha5 KO KS KB KZ KL ht H3
      go_wp2_with (at_builtin; refine wpList_append_str _ rfl (.tmp 17) (.tmp 21) rfl (w.heap.size + 2) _ L t rfl rfl KO5.out (by omega) hz5 ?_; intro v6 w6 HO6 hb6 hz6)
      go_roundw
      case rel => exact ⟨j - 1, L ++ [t], k' + 1, by congr 1; omega, by simp; omega, KL5.out, HO6, by simp; omega, KS5.out.below hb6, KB5.out.trans (hb6.mono (by omega)), KZ5.out.keepB (by omega) hb6⟩
      case measure => simp [intOf]; omega
    · obtain rfl : j = 0 := by omega
      obtain ⟨na, nc, rfl, _⟩ := KO.out.tin
      have H4 := l5Bent_any wr (w.heap.size + 1) a len cap k' KS.out (by omega) hl2
      have hzr := KS.out.lt
      generalize hTn : L.length = tn at *
      go_wp2_with fail
      refine H4.mono ?_
      rintro e w5 ⟨⟨m, h, p, va, vc, M, rfl, hm, hh, hp, ho, hM, hsm⟩, _, hb5, ha5⟩
      have KO5 : Hid (OwnS w5 (w.heap.size + 2) (.slice na tn nc) L) := KO.out.apart ha5 (by omega)
      have KB5 : Hid (Below w.heap.size w w5) := KB.out.trans (hb5.mono (Nat.le_succ _))
      have KM : Hid (OwnH w5 (w.heap.size + 2) (.slice va M.length vc) M) := ho.lower (by omega)
      have KZ5 : Hid (Four w5 w.heap.size (.string ⟨#[]⟩) (.string ⟨#[]⟩) (.string ⟨#[]⟩) (.slice none 0 0)) := KZ.out.keepB (Nat.lt_succ_self _) hb5
      have HSM : Hid (SmallH M) := hsm
      clear hb5 ha5 ho H4 KO KB KZ KS hsm
      generalize hMn : M.length = mn at *
      obtain ⟨r0, r1, r2, r3, rf, rl⟩ := KZ5.out
      have rf0 := rf 0
      have rf1 := rf 1
      have rf2 := rf 2
      have rf3 := rf 3
      clear rf rl KZ5
      go_wp2_with fail
      refine bodyPost_ret (v := .tuple #[.agg #[.string m, .string h, .string p, .slice va mn vc], .slice na tn nc]) ?_ rfl ⟨⟨m, h, p, va, vc, M, na, nc, L, by rw [hMn, hTn], hm, hh, hp, by rw [hMn]; exact ((((KM.out.put (by omega)).put (by omega)).put (by omega)).put (by omega)).lower (by omega), by omega, HSM.out, by rw [hTn]; exact ((((KO5.out.put (by omega)).put (by omega)).put (by omega)).put (by omega)).lower (by omega), by omega, KL.out⟩, (((KB5.out.setCell (by simp) _).setCell (by simp) _).setCell (by simp) _).setCell (by simp) _⟩
      simp [results, Tryz.results17, go_sem, r0, r1, r2, r3]
end Go.Proofs.YtmnblligifgcjaaGreatDoor
/-
  The draws of heads and names.
-/
namespace Go.Proofs.YtmnblligifgcjaaGreatDoor
open Go.ChangeShapes Go.WideShapes Go.ChangeAt Go.RowKit Go.Sort
set_option maxRecDepth 100000 in
set_option maxHeartbeats 8000000 in
theorem drawTags_any (w : World) (a : Option Addr) (len cap : Nat) (hc : CodeRow w w.heap.size a len) (hl2 : len ≤ 1048576) :
    Calls Tryz.prog 7 #[.slice a len cap] w fun e w' => (∃ v L, e = .returned v ∧ OwnH w' w.heap.size v L ∧ L.length ≤ 22) ∧ Below w.heap.size w w' := by
  have HC : Hid (CodeRow w w.heap.size a len) := hc
  clear hc
  go_enter Tryz.func7, Tryz.ntmps7
  go_wp2_with fail
  refine (l1Source_any w a len cap HC.out).mono ?_
  rintro e w0 ⟨rfl, hs0, hb0⟩
  have HS0 : Hid (Src w0 w.heap.size a len cap 0) := hs0
  have HB0 : Hid (Below w.heap.size w w0) := hb0
  have hlt : w.heap.size < w0.heap.size := hs0.lt
  clear hs0 HC hb0
  go_wp2_with fail
  refine (l4Bent_any w0 w.heap.size a len cap 0 HS0.out (by omega) hl2).mono ?_
  rintro e w1 ⟨⟨v, L, rfl, own, hlen, _⟩, ⟨k1, hk1, hs1⟩, hb1, ha1⟩
  have F1 : Hid (Src w1 w.heap.size a len cap k1 ∧ Below w.heap.size w w1 ∧ OwnH w1 w0.heap.size v L ∧ w0.heap.size ≤ w1.heap.size) := ⟨hs1, HB0.out.trans hb1, own, ha1.size⟩
  clear own hs1 hb1 ha1 HS0 HB0
  go_wp2_with fail
  refine (l1Chance_h w1 w.heap.size a len cap k1 2 F1.out.1 (by omega) (by omega) (by omega) hl2).mono ?_
  rintro e w2 ⟨⟨b, rfl⟩, hs2, hb2, ha2⟩
  have F2 : Hid (Src w2 w.heap.size a len cap (k1 + 1) ∧ Below w.heap.size w w2 ∧ OwnH w2 w0.heap.size v L ∧ w0.heap.size ≤ w2.heap.size) := ⟨hs2, F1.out.2.1.trans hb2, F1.out.2.2.1.apart ha2 hlt, Nat.le_trans F1.out.2.2.2 ha2.size⟩
  clear hs2 hb2 ha2 F1
  cases b
  · go_wp2_with fail
    go_ret
    exact ⟨⟨_, L, rfl, F2.out.2.2.1.lower (Nat.le_of_lt hlt), by omega⟩, F2.out.2.1⟩
  · have HW := l1Word_h w2 w.heap.size a len cap (k1 + 1) F2.out.1 ([⟨#[97, 32, 32, 98]⟩, ⟨#[]⟩, ⟨#[97, 32, 98, 32, 99, 32, 100, 32, 101, 32, 102, 32, 103, 32, 104, 32, 105, 32, 106]⟩, ⟨#[97, 32, 98, 32, 99, 32, 100, 32, 101, 32, 102, 32, 103, 32, 104, 32, 105, 32, 106, 32, 107]⟩, ⟨#[97, 44, 98]⟩] : List ByteArray) 5 rfl (by omega) (by omega) (by omega) hl2
    simp only [List.map_cons, List.map_nil] at HW
    go_wp2_with fail
    refine HW.mono ?_
    rintro e w3 ⟨⟨t, _, rfl⟩, hs3, hb3, ha3⟩
    have F3 : Hid (Below w.heap.size w w3 ∧ OwnH w3 w0.heap.size v L ∧ w0.heap.size ≤ w3.heap.size) := ⟨F2.out.2.1.trans hb3, F2.out.2.2.1.apart ha3 hlt, Nat.le_trans F2.out.2.2.2 ha3.size⟩
    clear hs3 hb3 ha3 F2 HW
    go_wp2_with (at_builtin; refine wpList_append_hdr _ rfl (.tmp 11) (.tmp 16) rfl w0.heap.size _ L ⟨#[83, 117, 114, 114, 111, 103, 97, 116, 101, 45, 75, 101, 121]⟩ t rfl (by simp [go_sem]) F3.out.2.1 (by omega) F3.out.2.2 ?_; intro v4 w4 ho4 hb4 hz4 hk4; have F4 : Hid (OwnH w4 w.heap.size v4 (L ++ [⟨⟨#[83, 117, 114, 114, 111, 103, 97, 116, 101, 45, 75, 101, 121]⟩, t⟩]) ∧ Below w.heap.size w w4) := ⟨ho4.lower (Nat.le_of_lt hlt), F3.out.1.trans (hb4.mono (Nat.le_of_lt hlt))⟩; clear ho4 hb4 hz4 hk4 F3)
    go_ret
    exact ⟨⟨_, _, rfl, F4.out.1, by simp only [List.length_append, List.length_cons, List.length_nil]; omega⟩, F4.out.2⟩
def SomeVary (base : Nat) (e : Ending) (w : World) : Prop := ∃ va vc L na nc T, e = .returned (.tuple #[.slice va (List.length L) vc, .slice na (List.length T) nc]) ∧ OwnH w base (.slice va (List.length L) vc) L ∧ L.length ≤ 22 ∧ OwnS w base (.slice na (List.length T) nc) T ∧ T.length ≤ 5
theorem SomeVary.mk {base : Nat} {w : World} {v : Value} {L : List Hdr} {na : Option Addr} {nc : Nat} {T : List ByteArray} (h1 : OwnH w base v L) (h2 : L.length ≤ 22) (h3 : OwnS w base (.slice na (List.length T) nc) T) (h4 : T.length ≤ 5) : SomeVary base (.returned (.tuple #[v, .slice na (List.length T) nc])) w := by
  obtain ⟨va, vc, rfl, _⟩ := h1.at
  exact ⟨va, vc, L, na, nc, T, rfl, h1, h2, h3, h4⟩
set_option maxRecDepth 100000 in
set_option maxHeartbeats 8000000 in
theorem drawVary_any (w : World) (a : Option Addr) (len cap : Nat) (hc : CodeRow w w.heap.size a len) (hl2 : len ≤ 1048576) :
    Calls Tryz.prog 5 #[.slice a len cap] w fun e w' => SomeVary w.heap.size e w' ∧ Below w.heap.size w w' := by
  have HC : Hid (CodeRow w w.heap.size a len) := hc
  clear hc
  go_enter Tryz.func5, Tryz.ntmps5
  go_wp2_with fail
  refine (l1Source_any w a len cap HC.out).mono ?_
  rintro e w0 ⟨rfl, hs0, hb0⟩
  have F0 : Hid (Src w0 w.heap.size a len cap 0 ∧ Below w.heap.size w w0 ∧ CodeRow w0 w0.heap.size a len) := ⟨hs0, hb0, (HC.out.below hb0).mono hb0.size⟩
  have hlt : w.heap.size < w0.heap.size := hs0.lt
  clear hs0 HC hb0
  go_wp2_with fail
  refine (drawFullKey_any w0 a len cap F0.out.2.2 hl2).mono ?_
  rintro e w1 ⟨⟨m, h, p, qa, qc, L1, na, nc, T, rfl, _, _, _, _, _, _, hT, hTl, _⟩, hb1⟩
  have al : Below w1.heap.size w1 (w1.alloc (.cells #[.string m, .string h, .string p, .slice qa L1.length qc] 42)) := (Below.refl _ _).alloc (Nat.le_refl _) _
  obtain ⟨v1, hv1⟩ : ∃ X, Hid (X = w1.alloc (.cells #[.string m, .string h, .string p, .slice qa L1.length qc] 42)) := ⟨_, rfl⟩
  have F1 : Hid (Src v1 w.heap.size a len cap 0 ∧ Below w.heap.size w v1 ∧ OwnS v1 w0.heap.size (.slice na T.length nc) T ∧ w0.heap.size ≤ v1.heap.size) := by
    obtain ⟨f1, f2, _⟩ := F0.out
    have q := hb1.trans (al.mono hb1.size)
    rw [hv1.out]
    exact ⟨f1.below (q.mono hlt), f2.trans (q.mono f2.size), hT.below al, q.size⟩
  clear hb1 al F0 hT
  go_upto_region 3 with fail
  rw [← hv1.out]
  clear hv1
  try clear w1
  go_wp2_with fail
  refine (l4Bent_any v1 w.heap.size a len cap 0 F1.out.1 (by omega) hl2).mono ?_
  rintro e w2 ⟨⟨v, L, rfl, own, hlen, _⟩, ⟨k1, hk1, hs2⟩, hb2, ha2⟩
  have F2 : Hid (Src w2 w.heap.size a len cap k1 ∧ Below w.heap.size w w2 ∧ OwnS w2 w0.heap.size (.slice na T.length nc) T ∧ OwnH w2 v1.heap.size v L ∧ v1.heap.size ≤ w2.heap.size ∧ w.heap.size < v1.heap.size) := by
    obtain ⟨f1, f2, f3, f4⟩ := F1.out
    exact ⟨hs2, f2.trans hb2, f3.apart ha2 hlt, own, ha2.size, f1.lt⟩
  clear own hs2 hb2 ha2 F1
  go_wp2_with fail
  refine (l1Chance_h w2 w.heap.size a len cap k1 2 F2.out.1 (by omega) (by omega) (by omega) hl2).mono ?_
  rintro e w3 ⟨⟨b, rfl⟩, hs3, hb3, ha3⟩
  have F3 : Hid (Src w3 w.heap.size a len cap (k1 + 1) ∧ Below w.heap.size w w3 ∧ OwnS w3 w0.heap.size (.slice na T.length nc) T ∧ OwnH w3 v1.heap.size v L ∧ v1.heap.size ≤ w3.heap.size ∧ w.heap.size < v1.heap.size) := by
    obtain ⟨f1, f2, f3, f4, f5, f6⟩ := F2.out
    exact ⟨hs3, f2.trans hb3, f3.apart ha3 hlt, f4.apart ha3 f6, Nat.le_trans f5 ha3.size, f6⟩
  clear hs3 hb3 ha3 F2
  cases b
  · go_wp2_with fail
    go_ret2
    exact ⟨SomeVary.mk (F3.out.2.2.2.1.lower (Nat.le_of_lt F3.out.2.2.2.2.2)) (by omega) (F3.out.2.2.1.lower (Nat.le_of_lt hlt)) hTl, F3.out.2.1⟩
  · have HW := l1Word_h w3 w.heap.size a len cap (k1 + 1) F3.out.1 ([⟨#[97, 99, 99, 101, 112, 116]⟩, ⟨#[88, 45, 65]⟩, ⟨#[97, 99, 99, 101, 112, 116, 44, 32, 120, 45, 97]⟩, ⟨#[42]⟩, ⟨#[]⟩, ⟨#[97, 61, 98]⟩, ⟨#[97, 32, 98]⟩, ⟨#[44]⟩] : List ByteArray) 8 rfl (by omega) (by omega) (by omega) hl2
    simp only [List.map_cons, List.map_nil] at HW
    go_wp2_with fail
    refine HW.mono ?_
    rintro e w4 ⟨⟨t, _, rfl⟩, hs4, hb4, ha4⟩
    have F4 : Hid (Below w.heap.size w w4 ∧ OwnS w4 w0.heap.size (.slice na T.length nc) T ∧ OwnH w4 v1.heap.size v L ∧ v1.heap.size ≤ w4.heap.size ∧ w.heap.size < v1.heap.size) := by
      obtain ⟨f1, f2, f3, f4, f5, f6⟩ := F3.out
      exact ⟨f2.trans hb4, f3.apart ha4 hlt, f4.apart ha4 f6, Nat.le_trans f5 ha4.size, f6⟩
    clear hs4 hb4 ha4 F3 HW
    go_wp2_with (at_builtin; refine wpList_append_hdr _ rfl (.tmp 19) (.tmp 24) rfl v1.heap.size _ L ⟨#[118, 97, 114, 121]⟩ t rfl (by simp [go_sem]) F4.out.2.2.1 (by omega) F4.out.2.2.2.1 ?_; intro v5 w5 ho5 hb5 hz5 hk5; have F5 : Hid (OwnH w5 w.heap.size v5 (L ++ [⟨⟨#[118, 97, 114, 121]⟩, t⟩]) ∧ Below w.heap.size w w5 ∧ OwnS w5 w.heap.size (.slice na T.length nc) T) := ⟨ho5.lower (Nat.le_of_lt F4.out.2.2.2.2), F4.out.1.trans (hb5.mono (Nat.le_of_lt F4.out.2.2.2.2)), (hk5 _ _ _ F4.out.2.1).lower (Nat.le_of_lt hlt)⟩; clear ho5 hb5 hz5 hk5 F4)
    go_ret2
    exact ⟨SomeVary.mk F5.out.1 (by simp only [List.length_append, List.length_cons, List.length_nil]; omega) F5.out.2.2 hTl, F5.out.2.1⟩
end Go.Proofs.YtmnblligifgcjaaGreatDoor
/-
  The first line of a name, on both sides; EtagOf.
-/
namespace Go.Proofs.YtmnblligifgcjaaGreatDoor
open Go.ChangeShapes Go.WideShapes Go.ChangeAt Go.RowKit Go.Sort
theorem first_sizes {l : List Hdr} (h : headsC l = 0) : l.length ≤ 20 ∧ ∀ (i : Nat) r, l[i]? = some r → r.name.size ≤ 64 ∧ r.value.size ≤ 200 := by
  obtain ⟨h1, h2⟩ := headsC_zero h
  refine ⟨h1, fun i r hr => ?_⟩
  have := asked (l := l) (name := ⟨#[120]⟩) (by rw [askC, if_pos h]; decide +kernel)
  exact this.2.1 i r hr
def firstV (x : ByteArray) (l : List Hdr) : ByteArray := match firstAt x l with | some i => ((l[i]?).map (·.value)).getD ⟨#[]⟩ | none => ⟨#[]⟩
def firstB (x : ByteArray) (l : List Hdr) : Bool := (firstAt x l).isSome
theorem firstV_some {x : ByteArray} {l : List Hdr} {i : Nat} {r : Hdr} (h : firstAt x l = some i) (hr : l[i]? = some r) : firstV x l = r.value ∧ firstB x l = true := by
  unfold firstV firstB
  rw [h]
  simp [hr]
theorem firstV_none {x : ByteArray} {l : List Hdr} (h : firstAt x l = none) : firstV x l = ⟨#[]⟩ ∧ firstB x l = false := by
  unfold firstV firstB
  rw [h]
  simp
theorem firstAt_at {x : ByteArray} : ∀ {l : List Hdr} {k : Nat} {r : Hdr}, firstAt x (l.take k) = none → l[k]? = some r → lowS r.name = x → firstAt x l = some k
  | [], k, r, _, h, _ => by simp at h
  | y :: l, 0, r, _, h, hx => by
    simp at h
    subst h
    rw [firstAt, if_pos hx]
  | y :: l, k + 1, r, h0, h, hx => by
    rw [List.take_succ_cons, firstAt] at h0
    split at h0
    · cases h0
    · rename_i hy
      rw [firstAt, if_neg hy, firstAt_at (Option.map_eq_none_iff.1 h0) (by simpa using h) hx]
      rfl
theorem firstAt_over {x : ByteArray} {l : List Hdr} {k : Nat} {r : Hdr} (h0 : firstAt x (l.take k) = none) (h : l[k]? = some r) (hx : ¬ lowS r.name = x) : firstAt x (l.take (k + 1)) = none := by
  rw [take_hdr h, firstAt_snoc, h0]
  simp [hx]
theorem firstV_size {x : ByteArray} {l : List Hdr} (hz : ∀ (i : Nat) r, l[i]? = some r → r.name.size ≤ 64 ∧ r.value.size ≤ 200) : (firstV x l).size ≤ 200 := by
  cases h : firstAt x l with
  | none => rw [(firstV_none h).1]; decide
  | some i =>
    have hi := firstAt_lt h
    rw [(firstV_some h (List.getElem?_eq_getElem hi)).1]
    exact (hz i _ (List.getElem?_eq_getElem hi)).2
set_option maxRecDepth 100000 in
set_option maxHeartbeats 4000000 in
theorem l6First_any (w : World) (a : Option Addr) (cap : Nat) (l : List Hdr) (name : ByteArray) (h20 : l.length ≤ 20) (hz : ∀ (i : Nat) r, l[i]? = some r → r.name.size ≤ 64 ∧ r.value.size ≤ 200) (hnm : name.size ≤ 64) (hi : HdsIn w a l) :
    Calls Tryz.prog 58 #[.slice a l.length cap, .string name] w fun e w' => e = .returned (.tuple #[.string (firstV (lowS name) l), .bool (firstB (lowS name) l)]) ∧ Below w.heap.size w w' := by
  have HI : Hid (HdsIn w a l) := hi
  have HZ : Hid (∀ (i : Nat) r, l[i]? = some r → r.name.size ≤ 64 ∧ r.value.size ≤ 200) := hz
  clear hi hz
  generalize hn : l.length = n at *
  have HN : Hid (l.length = n) := hn
  clear hn
  go_enter Tryz.func58, Tryz.ntmps58
  go_wp2_with fail
  go_loopw [6] (fun i wr => ∃ k : Nat, k ≤ n ∧ i = .int .i64 k ∧ firstAt (lowS name) (l.take k) = none ∧ Below w.heap.size w wr) (fun i _ => n - (intOf i).toNat)
  case atStart => exact ⟨0, Nat.zero_le _, rfl, rfl, Below.refl _ _⟩
  case round =>
    obtain ⟨k, hk, rfl, hf, hb⟩ := hrel
    have HF : Hid (firstAt (lowS name) (l.take k) = none) := hf
    clear hf
    by_cases hlt : k < n
    · obtain ⟨r, hr⟩ : ∃ r, l[k]? = some r := ⟨l[k]'(by have := HN.out; omega), List.getElem?_eq_getElem _⟩
      obtain ⟨b, off, rfl, hat⟩ := HI.out.ok hr
      obtain ⟨p1, p3⟩ := (hat.keep hb) k r hr
      obtain ⟨z1, z2⟩ := HZ.out k r hr
      have gk : (k : Int) < n := by omega
      have SA := fun w => l4Alike_any r.name name w (by omega) (by omega)
      by_cases he : lowS r.name = lowS name
      · obtain ⟨e1, e2⟩ := firstV_some (firstAt_at HF.out hr he) hr
        have HR : Hid (firstV (lowS name) l = r.value ∧ firstB (lowS name) l = true) := ⟨e1, e2⟩
        have HSA : Hid (∀ w, Calls Tryz.prog 57 #[.string r.name, .string name] w fun e w' => e = .returned (.bool true) ∧ Below w.heap.size w w') := by
          rw [show decide (lowS r.name = lowS name) = true from by simpa using he] at SA
          exact SA
        have HAT : Hid (HeadsAt w b off l) := hat
        have HRR : Hid (l[k]? = some r) := hr
        clear SA he e1 e2 hat hr HI HZ HF
        obtain ⟨rn, rv⟩ := r
        simp only at p1 p3 z1 z2
        go_wp2_with fail
        refine (HSA.out _).mono ?_
        rintro e w2 ⟨rfl, hb2⟩
        have KB : Hid (Below w.heap.size w w2) := hb.trans (hb2.mono hb.size)
        obtain ⟨q1, q3⟩ := (HAT.out.keep KB.out) k _ HRR.out
        clear hb2 hb p1 p3
        simp only at q1 q3
        go_wp2_with fail
        go_ret2
        exact ⟨hret_sb HR.out.1.symm HR.out.2.symm, KB.out⟩
      · have HX : Hid (firstAt (lowS name) (l.take (k + 1)) = none) := firstAt_over HF.out hr he
        have HSA : Hid (∀ w, Calls Tryz.prog 57 #[.string r.name, .string name] w fun e w' => e = .returned (.bool false) ∧ Below w.heap.size w w') := by
          rw [show decide (lowS r.name = lowS name) = false from by simpa using he] at SA
          exact SA
        clear SA he hat hr HZ HF
        obtain ⟨rn, rv⟩ := r
        simp only at p1 p3 z1 z2
        go_wp2_with fail
        refine (HSA.out _).mono ?_
        rintro e w2 ⟨rfl, hb2⟩
        have KB : Hid (Below w.heap.size w w2) := hb.trans (hb2.mono hb.size)
        clear hb2 hb p1 p3
        go_wp2_with fail
        go_roundw
        case rel => exact ⟨k + 1, by omega, by go_num, HX.out, KB.out⟩
        case measure => simp [intOf]; omega
    · have HR : Hid (firstV (lowS name) l = ⟨#[]⟩ ∧ firstB (lowS name) l = false) := by
        have e : l.take k = l := List.take_of_length_le (by have := HN.out; omega)
        have := HF.out
        rw [e] at this
        exact firstV_none this
      go_wp2_with fail
      go_ret2
      exact ⟨hret_sb HR.out.1.symm HR.out.2.symm, hb⟩
set_option maxRecDepth 100000 in
set_option maxHeartbeats 4000000 in
theorem firstValue_any (w : World) (a : Option Addr) (cap : Nat) (l : List Hdr) (name : ByteArray) (h20 : l.length ≤ 20) (hz : ∀ (i : Nat) r, l[i]? = some r → r.name.size ≤ 64 ∧ r.value.size ≤ 200) (hnm : name.size ≤ 64) (hi : HdsIn w a l) :
    Calls Tryz.prog 22 #[.slice a l.length cap, .string name] w fun e w' => e = .returned (.tuple #[.string (firstV (lowS name) l), .bool (firstB (lowS name) l)]) ∧ Below w.heap.size w w' := by
  have HP := firstPlaces_any w a cap l h20 (fun i r hr => (hz i r hr).1) hi
  have HS : Hid (∀ W, Calls Tryz.prog 37 #[.string name] W fun e w' => e = .returned (.string (lowS name)) ∧ Below W.heap.size W w') := fun W => smallName_any name W (by omega)
  have HI : Hid (HdsIn w a l) := hi
  have sz := lowS_size name
  clear hi hz
  cases hf : firstAt (lowS name) l with
  | none =>
    have HR : Hid (firstV (lowS name) l = ⟨#[]⟩ ∧ firstB (lowS name) l = false) := firstV_none hf
    have HF : Hid (firstAt (lowS name) l = none) := hf
    clear hf
    generalize l.length = n at *
    generalize lowS name = q at *
    go_enter Tryz.func22, Tryz.ntmps22
    go_wp2_with fail
    refine HP.mono ?_
    rintro e w1 ⟨rfl, hm1, hb1⟩
    have HM1 : Hid (NamesMap w1 w.heap.size 20 (fun x => firstAt x l)) := hm1
    have HB1 : Hid (Below w.heap.size w w1) := hb1
    clear hm1 hb1 HP
    go_wp2_with fail
    refine (HS.out _).mono ?_
    rintro e w2 ⟨rfl, hb2⟩
    have HM2 : Hid (NamesMap w2 w.heap.size 20 (fun x => firstAt x l)) := HM1.out.below hb2
    have HB2 : Hid (Below w.heap.size w w2) := HB1.out.trans (hb2.mono HB1.out.size)
    clear hb2 HM1 HB1 HS
    go_wp2_with (at_lookup; refine wpList_look_none _ rfl _ _ rfl w.heap.size 20 _ rfl HM2.out q rfl (by omega) HF.out ?_)
    go_ret2
    exact ⟨hret_sb HR.out.1.symm HR.out.2.symm, HB2.out⟩
  | some i =>
    have hil := firstAt_lt hf
    obtain ⟨r, hr⟩ : ∃ r, l[i]? = some r := ⟨l[i], List.getElem?_eq_getElem hil⟩
    have HR : Hid (firstV (lowS name) l = r.value ∧ firstB (lowS name) l = true) := firstV_some hf hr
    have HF : Hid (firstAt (lowS name) l = some i) := hf
    obtain ⟨b, off, rfl, hat⟩ := HI.out.ok hr
    have HAT : Hid (∀ W, Below w.heap.size w W → W.cell? ⟨b, off + i * 2, none⟩ = some (.string r.name) ∧ W.cell? ⟨b, off + i * 2 + 1, none⟩ = some (.string r.value)) := fun W hb => (hat.keep hb) i r hr
    clear hf hr hat HI
    generalize l.length = n at *
    generalize lowS name = q at *
    generalize r.value = rv at *
    generalize r.name = rn at *
    have gi1 : (i : Int) < (n : Int) := by omega
    go_enter Tryz.func22, Tryz.ntmps22
    go_wp2_with fail
    refine HP.mono ?_
    rintro e w1 ⟨rfl, hm1, hb1⟩
    have HM1 : Hid (NamesMap w1 w.heap.size 20 (fun x => firstAt x l)) := hm1
    have HB1 : Hid (Below w.heap.size w w1) := hb1
    clear hm1 hb1 HP
    go_wp2_with fail
    refine (HS.out _).mono ?_
    rintro e w2 ⟨rfl, hb2⟩
    have HM2 : Hid (NamesMap w2 w.heap.size 20 (fun x => firstAt x l)) := HM1.out.below hb2
    have HB2 : Hid (Below w.heap.size w w2) := HB1.out.trans (hb2.mono HB1.out.size)
    obtain ⟨p1, p3⟩ := HAT.out _ HB2.out
    clear hb2 HM1 HB1 HS
    go_wp2_with (at_lookup; refine wpList_look_some _ rfl _ _ rfl w.heap.size 20 _ rfl HM2.out q rfl (by omega) i HF.out ?_)
    go_ret2
    exact ⟨hret_sb HR.out.1.symm HR.out.2.symm, HB2.out⟩
/-! ### EtagOf -/
def etagN : ByteArray := ⟨#[101, 116, 97, 103]⟩
theorem etag_low : lowS ⟨#[101, 116, 97, 103]⟩ = etagN := by decide +kernel
theorem etagI_low : lowS ⟨#[69, 84, 97, 103]⟩ = etagN := by decide +kernel
def etagC (l : List Hdr) : Int := if headsC l = 0 then (if firstV etagN l = ⟨#[]⟩ then 4 else 0) else headsC l
def etagT (l : List Hdr) : ByteArray := if headsC l = 0 then firstV etagN l else ⟨#[]⟩
theorem etag_bad {l : List Hdr} (h : ¬ headsC l = 0) : etagC l = headsC l ∧ etagT l = ⟨#[]⟩ := by rw [etagC, etagT, if_neg h, if_neg h]; exact ⟨rfl, rfl⟩
theorem etag_none {l : List Hdr} (h : headsC l = 0) (h2 : firstV etagN l = ⟨#[]⟩) : etagC l = 4 ∧ etagT l = ⟨#[]⟩ := by rw [etagC, etagT, if_pos h, if_pos h, if_pos h2]; exact ⟨rfl, h2⟩
theorem etag_some {l : List Hdr} (h : headsC l = 0) (h2 : ¬ firstV etagN l = ⟨#[]⟩) : etagC l = 0 ∧ etagT l = firstV etagN l := by rw [etagC, etagT, if_pos h, if_pos h, if_neg h2]; exact ⟨rfl, rfl⟩
theorem etxt_ne {a : ByteArray} (h : ¬ a = ⟨#[]⟩) : a.toList.isEmpty = false := by
  rw [ByteArray.toList_eq]
  cases hd : a.data.toList with
  | nil => exact absurd (ByteArray.ext (Array.ext' (by rw [hd]))) h
  | cons x l => rfl
theorem l6Etag_any (w : World) (a : Option Addr) (cap : Nat) (l : List Hdr) (h0 : headsC l = 0) (hi : HdsIn w a l) :
    Calls Tryz.prog 32 #[.slice a l.length cap] w fun e w' => e = .returned (.string (firstV etagN l)) ∧ Below w.heap.size w w' := by
  obtain ⟨h20, hz⟩ := first_sizes h0
  have H1 := l6First_any w a cap l ⟨#[101, 116, 97, 103]⟩ h20 hz (by decide) hi
  rw [etag_low] at H1
  generalize l.length = n at *
  clear hi hz
  obtain ⟨x, hx⟩ : ∃ x, Hid (firstV etagN l = x) := ⟨_, rfl⟩
  rw [hx.out] at H1 ⊢
  generalize firstB etagN l = y at *
  go_enter Tryz.func32, Tryz.ntmps32
  go_wp2_with fail
  refine H1.mono ?_
  rintro e w1 ⟨rfl, hb1⟩
  have HB : Hid (Below w.heap.size w w1) := hb1
  clear hb1
  go_wp2_with fail
  go_ret
  exact ⟨rfl, HB.out⟩
set_option maxRecDepth 100000 in
set_option maxHeartbeats 4000000 in
theorem specEtag_any (w : World) (a : Option Addr) (cap : Nat) (l : List Hdr) (hl : l.length ≤ 1048576) (hi : HdsIn w a l) :
    Calls Tryz.prog 11 #[.slice a l.length cap] w fun e w' => e = .returned (.agg #[.int .i64 (etagC l), .string (etagT l)]) ∧ Below w.heap.size w w' := by
  have HA : Hid (∀ W, Below w.heap.size w W → Calls Tryz.prog 29 #[.slice a l.length cap] W fun e w' => e = .returned (.int .i64 (headsC l)) ∧ Below W.heap.size W w') := fun W hb => specHFault_any W a cap l hl (hi.keep hb)
  by_cases h0 : headsC l = 0
  · have HJ : Hid (∀ W, Below w.heap.size w W → Calls Tryz.prog 32 #[.slice a l.length cap] W fun e w' => e = .returned (.string (firstV etagN l)) ∧ Below W.heap.size W w') := fun W hb => l6Etag_any W a cap l h0 (hi.keep hb)
    rw [h0] at HA
    clear hi
    generalize l.length = n at *
    by_cases hv : firstV etagN l = ⟨#[]⟩
    · rw [(etag_none h0 hv).1, (etag_none h0 hv).2]
      rw [hv] at HJ
      clear hv h0
      go_enter Tryz.func11, Tryz.ntmps11
      go_wp2_with fail
      refine (HA.out _ ((Below.refl _ _).alloc (Nat.le_refl _) _)).mono ?_
      rintro e w1 ⟨rfl, hb1⟩
      rw [World.size_alloc] at hb1
      have HB1 : Hid (Below (w.heap.size + 1) (w.alloc (.cells #[.int .i64 0, .string ⟨#[]⟩] 29)) w1) := hb1
      have hz1 : w.heap.size + 1 ≤ w1.heap.size := by have := hb1.size; rwa [World.size_alloc] at this
      clear hb1 HA
      go_wp2_with fail
      refine (HJ.out _ (text_room HB1.out).2.2.2.2.2).mono ?_
      rintro e w2 ⟨rfl, hb2⟩
      obtain ⟨hz2, q0, q1, f0, f1, kb⟩ := text_room (HB1.out.trans (hb2.mono hz1))
      obtain ⟨r0, r1⟩ := two_set (v0 := .int .i64 4) (v1 := .string ⟨#[]⟩) q0 q1
      clear hb2 HB1 HJ
      go_wp2_with fail
      exact bodyPost_ret (v := .agg #[.int .i64 4, .string ⟨#[]⟩]) (by simp [results, Tryz.results11, go_sem, r0, r1]) rfl ⟨rfl, (kb.setCell (Nat.le_refl _) _).setCell (Nat.le_refl _) _⟩
    · rw [(etag_some h0 hv).1, (etag_some h0 hv).2]
      have hne := etxt_ne hv
      clear h0 hv
      generalize firstV etagN l = jt at *
      go_enter Tryz.func11, Tryz.ntmps11
      go_wp2_with fail
      refine (HA.out _ ((Below.refl _ _).alloc (Nat.le_refl _) _)).mono ?_
      rintro e w1 ⟨rfl, hb1⟩
      rw [World.size_alloc] at hb1
      have HB1 : Hid (Below (w.heap.size + 1) (w.alloc (.cells #[.int .i64 0, .string ⟨#[]⟩] 29)) w1) := hb1
      have hz1 : w.heap.size + 1 ≤ w1.heap.size := by have := hb1.size; rwa [World.size_alloc] at this
      clear hb1 HA
      go_wp2_with fail
      refine (HJ.out _ (text_room HB1.out).2.2.2.2.2).mono ?_
      rintro e w2 ⟨rfl, hb2⟩
      have HB2 : Hid (Below (w.heap.size + 1) (w.alloc (.cells #[.int .i64 0, .string ⟨#[]⟩] 29)) w2) := HB1.out.trans (hb2.mono hz1)
      have hz2 : w.heap.size + 1 ≤ w2.heap.size := Nat.le_trans hz1 hb2.size
      clear hb2 HB1
      go_wp2_with fail
      refine (HJ.out _ (text_room HB2.out).2.2.2.2.2).mono ?_
      rintro e w3 ⟨rfl, hb3⟩
      obtain ⟨hz3, q0, q1, f0, f1, kb⟩ := text_room (HB2.out.trans (hb3.mono hz2))
      obtain ⟨r0, r1⟩ := two_set (v0 := .int .i64 0) (v1 := .string jt) q0 q1
      clear hb3 HB2 HJ
      go_wp2_with fail
      exact bodyPost_ret (v := .agg #[.int .i64 0, .string jt]) (by simp [results, Tryz.results11, go_sem, r0, r1]) rfl ⟨rfl, (kb.setCell (Nat.le_refl _) _).setCell (Nat.le_refl _) _⟩
  · rw [(etag_bad h0).1, (etag_bad h0).2]
    clear hi
    have hne : (headsC l != 0) = true := by simpa using h0
    generalize headsC l = fc at *
    generalize l.length = n at *
    go_enter Tryz.func11, Tryz.ntmps11
    go_wp2_with fail
    refine (HA.out _ ((Below.refl _ _).alloc (Nat.le_refl _) _)).mono ?_
    rintro e w1 ⟨rfl, hb1⟩
    rw [World.size_alloc] at hb1
    obtain ⟨hz2, q0, q1, f0, f1, kb⟩ := text_room hb1
    obtain ⟨r0, r1⟩ := two_set (v0 := .int .i64 fc) (v1 := .string ⟨#[]⟩) q0 q1
    clear hb1 HA
    go_wp2_with fail
    exact bodyPost_ret (v := .agg #[.int .i64 fc, .string ⟨#[]⟩]) (by simp [results, Tryz.results11, go_sem, r0, r1]) rfl ⟨rfl, (kb.setCell (Nat.le_refl _) _).setCell (Nat.le_refl _) _⟩
set_option maxRecDepth 100000 in
set_option maxHeartbeats 4000000 in
theorem implEtag_any (w : World) (a : Option Addr) (cap : Nat) (l : List Hdr) (hl : l.length ≤ 1048576) (hset : SetIs w) (hi : HdsIn w a l) :
    Calls Tryz.prog 6 #[.slice a l.length cap] w fun e w' => e = .returned (.agg #[.int .i64 (etagC l), .string (etagT l)]) ∧ Below w.heap.size w w' := by
  have HA : Hid (∀ W, Below w.heap.size w W → Calls Tryz.prog 21 #[.slice a l.length cap] W fun e w' => e = .returned (.int .i64 (headsC l)) ∧ Below W.heap.size W w') := fun W hb => implHFault_any W a cap l hl (hset.below hb) (hi.keep hb)
  by_cases h0 : headsC l = 0
  · obtain ⟨h20, hz⟩ := first_sizes h0
    have HJ : Hid (∀ W, Below w.heap.size w W → Calls Tryz.prog 22 #[.slice a l.length cap, .string ⟨#[69, 84, 97, 103]⟩] W fun e w' => e = .returned (.tuple #[.string (firstV etagN l), .bool (firstB etagN l)]) ∧ Below W.heap.size W w') := fun W hb => by
      have := firstValue_any W a cap l ⟨#[69, 84, 97, 103]⟩ h20 hz (by decide) (hi.keep hb)
      rw [etagI_low] at this
      exact this
    have hfz : (firstV etagN l).size ≤ 200 := firstV_size hz
    rw [h0] at HA
    clear hi hz
    generalize l.length = n at *
    generalize firstB etagN l = y at *
    by_cases hv : firstV etagN l = ⟨#[]⟩
    · rw [(etag_none h0 hv).1, (etag_none h0 hv).2]
      rw [hv] at HJ
      clear hv h0 hfz
      go_enter Tryz.func6, Tryz.ntmps6
      go_wp2_with fail
      refine (HA.out _ ((Below.refl _ _).alloc (Nat.le_refl _) _)).mono ?_
      rintro e w1 ⟨rfl, hb1⟩
      rw [World.size_alloc] at hb1
      have HB1 : Hid (Below (w.heap.size + 1) (w.alloc (.cells #[.int .i64 0, .string ⟨#[]⟩] 29)) w1) := hb1
      have hz1 : w.heap.size + 1 ≤ w1.heap.size := by have := hb1.size; rwa [World.size_alloc] at this
      clear hb1 HA
      go_wp2_with fail
      refine (HJ.out _ (text_room HB1.out).2.2.2.2.2).mono ?_
      rintro e w2 ⟨rfl, hb2⟩
      obtain ⟨hz2, q0, q1, f0, f1, kb⟩ := text_room (HB1.out.trans (hb2.mono hz1))
      obtain ⟨r0, r1⟩ := two_set (v0 := .int .i64 4) (v1 := .string ⟨#[]⟩) q0 q1
      clear hb2 HB1 HJ
      go_wp2_with fail
      exact bodyPost_ret (v := .agg #[.int .i64 4, .string ⟨#[]⟩]) (by simp [results, Tryz.results6, go_sem, r0, r1]) rfl ⟨rfl, (kb.setCell (Nat.le_refl _) _).setCell (Nat.le_refl _) _⟩
    · rw [(etag_some h0 hv).1, (etag_some h0 hv).2]
      have hne := etxt_ne hv
      clear h0 hv
      generalize firstV etagN l = jt at *
      go_enter Tryz.func6, Tryz.ntmps6
      go_wp2_with fail
      refine (HA.out _ ((Below.refl _ _).alloc (Nat.le_refl _) _)).mono ?_
      rintro e w1 ⟨rfl, hb1⟩
      rw [World.size_alloc] at hb1
      have HB1 : Hid (Below (w.heap.size + 1) (w.alloc (.cells #[.int .i64 0, .string ⟨#[]⟩] 29)) w1) := hb1
      have hz1 : w.heap.size + 1 ≤ w1.heap.size := by have := hb1.size; rwa [World.size_alloc] at this
      clear hb1 HA
      go_wp2_with fail
      refine (HJ.out _ (text_room HB1.out).2.2.2.2.2).mono ?_
      rintro e w2 ⟨rfl, hb2⟩
      have HB2 : Hid (Below (w.heap.size + 1) (w.alloc (.cells #[.int .i64 0, .string ⟨#[]⟩] 29)) w2) := HB1.out.trans (hb2.mono hz1)
      have hz2 : w.heap.size + 1 ≤ w2.heap.size := Nat.le_trans hz1 hb2.size
      clear hb2 HB1 HJ
      go_wp2_with fail
      refine (hclone_any jt _ (by omega)).mono ?_
      rintro e w3 ⟨rfl, hb3⟩
      obtain ⟨hz3, q0, q1, f0, f1, kb⟩ := text_room (HB2.out.trans (hb3.mono hz2))
      obtain ⟨r0, r1⟩ := two_set (v0 := .int .i64 0) (v1 := .string jt) q0 q1
      clear hb3 HB2
      go_wp2_with fail
      exact bodyPost_ret (v := .agg #[.int .i64 0, .string jt]) (by simp [results, Tryz.results6, go_sem, r0, r1]) rfl ⟨rfl, (kb.setCell (Nat.le_refl _) _).setCell (Nat.le_refl _) _⟩
  · rw [(etag_bad h0).1, (etag_bad h0).2]
    clear hi
    have hne : (headsC l != 0) = true := by simpa using h0
    generalize headsC l = fc at *
    generalize l.length = n at *
    go_enter Tryz.func6, Tryz.ntmps6
    go_wp2_with fail
    refine (HA.out _ ((Below.refl _ _).alloc (Nat.le_refl _) _)).mono ?_
    rintro e w1 ⟨rfl, hb1⟩
    rw [World.size_alloc] at hb1
    obtain ⟨hz2, q0, q1, f0, f1, kb⟩ := text_room hb1
    obtain ⟨r0, r1⟩ := two_set (v0 := .int .i64 fc) (v1 := .string ⟨#[]⟩) q0 q1
    clear hb1 HA
    go_wp2_with fail
    exact bodyPost_ret (v := .agg #[.int .i64 fc, .string ⟨#[]⟩]) (by simp [results, Tryz.results6, go_sem, r0, r1]) rfl ⟨rfl, (kb.setCell (Nat.le_refl _) _).setCell (Nat.le_refl _) _⟩
end Go.Proofs.YtmnblligifgcjaaGreatDoor
/-
  What the model's l2Quote answers.
-/
namespace Go.Proofs.YtmnblligifgcjaaGreatDoor
open Go.ChangeShapes Go.WideShapes Go.ChangeAt Go.RowKit
def quoteT (s : ByteArray) : ByteArray := ⟨(quoteL s.data.toList).toArray⟩
end Go.Proofs.YtmnblligifgcjaaGreatDoor
/-
  What the model's l2Unquote answers.
-/
namespace Go.Proofs.YtmnblligifgcjaaGreatDoor
open Go.ChangeShapes Go.WideShapes Go.ChangeAt Go.RowKit
def unqS (s : ByteArray) : ByteArray := ⟨(unqT s.data.toList).1.toArray⟩
def unqB (s : ByteArray) : Bool := (unqT s.data.toList).2
theorem ret_two {a b : ByteArray} {c d : Bool} (h1 : a = b) (h2 : c = d) : Ending.returned (.tuple #[.string a, .bool c]) = .returned (.tuple #[.string b, .bool d]) := by rw [h1, h2]
theorem unq_of {s : ByteArray} {p : List UInt8 × Bool} (h : unqT s.data.toList = p) : (⟨p.1.toArray⟩ : ByteArray) = unqS s ∧ p.2 = unqB s := by subst h; exact ⟨rfl, rfl⟩
theorem unqT_no {l : List UInt8} (h : ¬ (2 ≤ l.length ∧ l.head? = some 34 ∧ plainL l = true)) : unqT l = ([], false) := by unfold unqT; rw [if_neg h]
theorem unqT_go {l : List UInt8} (h1 : 2 ≤ l.length) (h2 : l.head? = some 34) (h3 : plainL l = true) : unqT l = unq [] (l.drop 1) := by unfold unqT; rw [if_pos ⟨h1, h2, h3⟩, List.drop_one]
theorem drop_at (s : ByteArray) (k : Nat) (h : k < s.size) : s.data.toList.drop k = s[k] :: s.data.toList.drop (k + 1) := by
  rw [List.drop_eq_getElem_cons (by simpa using h)]; rfl
set_option maxHeartbeats 400000 in
theorem l2Unquote_not (s : ByteArray) (w : World) (hs : s.size ≤ 2002) (h : ¬ (2 ≤ s.data.toList.length ∧ s.data.toList.head? = some 34 ∧ plainL s.data.toList = true)) :
    Calls Tryz.prog 116 #[.string s] w fun e w' => e = .returned (.tuple #[.string ⟨#[]⟩, .bool false]) ∧ Below w.heap.size w w' := by
  by_cases h1 : s.size < 2
  · have g1 : (s.size : Int) < 2 := by omega
    clear h
    go_enter Tryz.func116, Tryz.ntmps116
    go_wp2
    go_ret2
    exact ⟨rfl, Below.refl _ _⟩
  · have g1 : ¬ (s.size : Int) < 2 := by omega
    have h0 : 0 < s.size := by omega
    have g0 : (0 : Int) < s.size := by omega
    have eh : s.data.toList.head? = some s[0] := by
      have := drop_at s 0 h0
      rw [List.drop_zero] at this
      rw [this]; rfl
    by_cases h2 : (s[0].toNat : Int) = 34
    · have g2 : ((s[0].toNat : Int) != 34) = false := by simpa using h2
      have h3 : plainL s.data.toList = false := by
        cases hp : plainL s.data.toList
        · rfl
        · refine absurd ⟨by simpa using (by omega : 2 ≤ s.size), ?_, hp⟩ h
          rw [eh]
          exact congrArg some (UInt8.toNat_inj.1 (by simpa using (by omega : s[0].toNat = 34)))
      have HP : Hid (plainL s.data.toList = false) := h3
      clear h3 h eh h2
      go_enter Tryz.func116, Tryz.ntmps116
      go_wp2_with fail
      refine (plainText_any s _ (by omega)).mono ?_
      rintro e w1 ⟨rfl, rfl⟩
      rw [HP.out]
      go_wp2
      go_ret2
      exact ⟨rfl, Below.refl _ _⟩
    · have g2 : ((s[0].toNat : Int) != 34) = true := by simpa using h2
      clear h eh h2
      go_enter Tryz.func116, Tryz.ntmps116
      go_wp2
      go_ret2
      exact ⟨rfl, Below.refl _ _⟩
set_option maxHeartbeats 2000000 in
theorem l2Unquote_yes (s : ByteArray) (w : World) (hs : s.size ≤ 2002) (h1 : 2 ≤ s.data.toList.length) (h2 : s.data.toList.head? = some 34) (h3 : plainL s.data.toList = true) :
    Calls Tryz.prog 116 #[.string s] w fun e w' => e = .returned (.tuple #[.string (unqS s), .bool (unqB s)]) ∧ Below w.heap.size w w' := by
  have hn : 2 ≤ s.size := by simpa using h1
  have g1 : ¬ (s.size : Int) < 2 := by omega
  have h0 : 0 < s.size := by omega
  have g0 : (0 : Int) < s.size := by omega
  have g2 : ((s[0].toNat : Int) != 34) = false := by
    have := drop_at s 0 h0
    rw [List.drop_zero] at this
    rw [this] at h2
    simp only [List.head?_cons, Option.some.injEq] at h2
    rw [h2]; decide
  have HT : Hid (unqT s.data.toList = unq [] (s.data.toList.drop 1)) := unqT_go h1 h2 h3
  have HP : Hid (plainL s.data.toList = true) := h3
  clear h1 h2 h3
  go_enter Tryz.func116, Tryz.ntmps116
  go_wp2_with fail
  refine (plainText_any s _ (by omega)).mono ?_
  rintro e w1 ⟨rfl, rfl⟩
  rw [HP.out]
  clear HP
  go_wp2
  go_loopw [4, 5] (fun v i wr => ∃ (k : Nat) (acc : List UInt8), k ≤ s.size ∧ acc.length ≤ k ∧ i = .int .i64 k ∧ OwnB wr w1.heap.size v acc ∧ unqT s.data.toList = unq acc (s.data.toList.drop k) ∧ Below w1.heap.size w1 wr) (fun _ i _ => s.size - (intOf i).toNat)
  case atStart => exact ⟨1, [], by omega, by simp, rfl, OwnB.made w1 w1.heap.size (Nat.le_refl _) [] (by decide), HT.out, (Below.refl _ _).alloc (Nat.le_refl _) _⟩
  case round =>
    obtain ⟨k, acc, hk, ha, rfl, hown, hq, hb⟩ := hrel
    have HO : Hid (OwnB wr w1.heap.size u4 acc) := hown
    have HQ : Hid (unqT s.data.toList = unq acc (s.data.toList.drop k)) := hq
    have hz := hb.size
    clear hown hq HT
    by_cases hlt : k < s.size
    · have HD : Hid (s.data.toList.drop k = s[k] :: s.data.toList.drop (k + 1)) := drop_at s k hlt
      by_cases c1 : (s[k].toNat : Int) = 34
      · have HE : Hid ((⟨acc.toArray⟩ : ByteArray) = unqS s ∧ decide (s.data.toList.drop (k + 1) = []) = unqB s) := by
          have := HQ.out
          rw [HD.out, unq_end _ _ _ c1] at this
          exact unq_of this
        have e1 : ((s[k].toNat : Int) == 34) = true := by simpa using c1
        have hcv := HO.out.text
        by_cases hl : k + 1 = s.size
        · have e2 : ((k : Int) == (s.size : Int) - 1) = true := by simp; omega
          have HF : Hid (unqB s = true) := by
            show _ = _
            rw [← HE.out.2]; simp; omega
          have HG : Hid ((⟨acc.toArray⟩ : ByteArray) = unqS s) := HE.out.1
          clear HE HQ HD c1
          generalize (⟨acc.toArray⟩ : ByteArray) = r at *
          go_wp2_with fail
          go_ret2
          exact ⟨ret_two HG.out HF.out.symm, hb⟩
        · have e2 : ((k : Int) == (s.size : Int) - 1) = false := by simp; omega
          have HF : Hid (unqB s = false) := by
            show _ = _
            rw [← HE.out.2]; simp; omega
          have HG : Hid ((⟨acc.toArray⟩ : ByteArray) = unqS s) := HE.out.1
          clear HE HQ HD c1
          generalize (⟨acc.toArray⟩ : ByteArray) = r at *
          go_wp2_with fail
          go_ret2
          exact ⟨ret_two HG.out HF.out.symm, hb⟩
      · have e1 : ((s[k].toNat : Int) == 34) = false := by simpa using c1
        by_cases c2 : (s[k].toNat : Int) = 92
        · have e2 : ((s[k].toNat : Int) == 92) = true := by simpa using c2
          by_cases hl : k + 1 = s.size
          · have e3 : ((k : Int) + 1 == (s.size : Int)) = true := by simp; omega
            have HE : Hid ((⟨#[]⟩ : ByteArray) = unqS s ∧ false = unqB s) := by
              have := HQ.out
              rw [HD.out, show s.data.toList.drop (k + 1) = [] from List.drop_of_length_le (by simp; omega), unq_cut _ _ c2] at this
              exact unq_of this
            clear HQ HD c1 c2
            go_wp2_with fail
            go_ret2
            exact ⟨ret_two HE.out.1 HE.out.2, hb⟩
          · have e3 : ((k : Int) + 1 == (s.size : Int)) = false := by simp; omega
            have hlt2 : k + 1 < s.size := by omega
            have HE : Hid (unqT s.data.toList = unq (acc ++ [s[k + 1]]) (s.data.toList.drop (k + 2))) := by
              show _ = _
              rw [HQ.out, HD.out, drop_at s (k + 1) hlt2, unq_esc _ _ _ _ c2]
            clear HQ HD c1 c2
            go_wp2_with (at_builtin; refine wpList_append_byte _ rfl (.tmp 49) (.tmp 53) rfl w1.heap.size _ acc _ s[k + 1] rfl rfl HO.out rfl (by omega) hz ?_; intro v2 w2 HO2 hb2 hz2)
            go_roundw
            case rel => exact ⟨k + 2, acc ++ [s[k + 1]], by omega, by simp; omega, by go_num, HO2, HE.out, hb.trans hb2⟩
            case measure => simp [intOf]; omega
        · have e2 : ((s[k].toNat : Int) == 92) = false := by simpa using c2
          have HE : Hid (unqT s.data.toList = unq (acc ++ [s[k]]) (s.data.toList.drop (k + 1))) := by
            show _ = _
            rw [HQ.out, HD.out, unq_take _ _ _ c1 c2]
          clear HQ HD c1 c2
          go_wp2_with (at_builtin; refine wpList_append_byte _ rfl (.tmp 49) (.tmp 53) rfl w1.heap.size _ acc _ s[k] rfl rfl HO.out rfl (by omega) hz ?_; intro v2 w2 HO2 hb2 hz2)
          go_roundw
          case rel => exact ⟨k + 1, acc ++ [s[k]], by omega, by simp; omega, by go_num, HO2, HE.out, hb.trans hb2⟩
          case measure => simp [intOf]; omega
    · have HE : Hid ((⟨#[]⟩ : ByteArray) = unqS s ∧ false = unqB s) := by
        have := HQ.out
        rw [show s.data.toList.drop k = [] from List.drop_of_length_le (by simp; omega)] at this
        exact unq_of this
      clear HQ
      go_wp2_with fail
      go_ret2
      exact ⟨ret_two HE.out.1 HE.out.2, hb⟩
theorem l2Unquote_any (s : ByteArray) (w : World) (hs : s.size ≤ 2002) :
    Calls Tryz.prog 116 #[.string s] w fun e w' => e = .returned (.tuple #[.string (unqS s), .bool (unqB s)]) ∧ Below w.heap.size w w' := by
  by_cases h : 2 ≤ s.data.toList.length ∧ s.data.toList.head? = some 34 ∧ plainL s.data.toList = true
  · exact l2Unquote_yes s w hs h.1 h.2.1 h.2.2
  · have e := unq_of (unqT_no h)
    have := l2Unquote_not s w hs h
    rw [← e.1, ← e.2]
    exact this
end Go.Proofs.YtmnblligifgcjaaGreatDoor
/-
  A slice of bytes that the call itself grows, from nil on; where what a quote begins ends.
-/
namespace Go.Proofs.YtmnblligifgcjaaGreatDoor
open Go.ChangeShapes Go.WideShapes Go.ChangeAt Go.RowKit
theorem size_list (s : ByteArray) : s.data.toList.length = s.size := by simp
/-- v, nil or not, holds the bytes l in a row of the call's own. -/
def OwnR (w : World) (base : Nat) (v : Value) (l : List UInt8) : Prop := w.ownsRow base 5 1 v l.length (bytesW l)
theorem OwnR.text {w : World} {base : Nat} {v : Value} {l : List UInt8} (h : OwnR w base v l) :
    (convert 22 9 v).run Tryz.prog w = .ok (.string ⟨l.toArray⟩) w := by
  by_cases hn : v = .slice none 0 0
  · obtain ⟨_, h2 | ⟨g, c, cur, e, _⟩⟩ := h
    · have : l = [] := List.eq_nil_of_length_eq_zero h2.2
      subst this hn
      rw [run_convert_bytes_string w 22 9 5 none 0 0 Tryz.underlying22 Tryz.underlying5 Tryz.underlying9]
      rfl
    · rw [hn] at e; cases e
  · exact OwnB.text ⟨h, hn⟩
theorem OwnR.nil (w : World) (base : Nat) : OwnR w base (.slice none 0 0) [] := World.ownsRow_nil _ _ _ _
theorem wpList_append_byteR {ops : Array Oper} {rest : List Oper} {o : Oper} {a : Act} {Q : Exit → Act → World → Prop} (w : World) (hgd : o.guard = none) (s x : Operand)
    (ho : o.op = .call { callee := .builtin .append, args := #[s, x], argTypes := #[22, 22] }) (base : Nat) (v : Value) (l : List UInt8) (z : Int) (c : UInt8)
    (hs : a.eval s = v) (hx : a.eval x = .slice (some ⟨w.heap.size, 0, none⟩) 1 1) (hown : OwnR w base v l) (hc : (c.toNat : Int) = z) (hl : l.length ≤ 1000000) (hbase : base ≤ w.heap.size)
    (h : ∀ v' w', OwnR w' base v' (l ++ [c]) → Below base w w' → w.heap.size ≤ w'.heap.size → wpList Tryz.prog ops Q rest (a.put o.dst v') w') :
    wpList Tryz.prog ops Q (o :: rest) a (w.alloc (.cells #[.int .u8 z] 5)) := by
  obtain ⟨i0, hi, hz0, hz1, hz2⟩ := info_parts infoByteB
  refine wpList_append_own _ hgd s x 22 ho base 5 i0 (.int .u8 0) 1 1 Tryz.underlying22 hi hz0 hz1 hz2 rfl (by decide) v l.length (bytesW l) hs (World.ownsRow.alloc hown _) ⟨w.heap.size, 0, none⟩ 1 1 [.int .u8 z] hx rfl ?_ ?_ ?_ ?_ ?_ ?_
  · intro j u hj
    match j, hj with
    | 0, hj => simp at hj; subst hj; simp [Addr.add]
  · intro u hu; simp at hu; subst hu; rfl
  · unfold maxLen; omega
  · omega
  · simp; omega
  · intro v' w' h1 h2 h3
    have e : bytesW (l ++ [c]) = bytesW l ++ [Value.int .u8 z] := by simp [bytesW, hc]
    refine h v' w' (by unfold OwnR; rw [e, List.length_append]; exact h1) ?_ ?_
    · exact ((Below.refl base w).alloc hbase _).grown h2 (by simp; omega) (fun q hq => own_geB hown q hq)
    · have hb := ((Below.refl 0 w).alloc (Nat.zero_le _) (.cells #[.int .u8 z] 5)).grown h2 (Nat.zero_le _) (fun q _ => Nat.zero_le _)
      exact hb.size
/-- How many bytes stand ahead of the quote that ends; all of them where none does. -/
def qLen : List UInt8 → Nat
  | [] => 0
  | [c] => if (c.toNat : Int) = 34 then 0 else 1
  | c :: d :: r => if (c.toNat : Int) = 34 then 0 else if (c.toNat : Int) = 92 then 2 + qLen r else 1 + qLen (d :: r)
theorem qLen_end (c : UInt8) (r : List UInt8) (h : (c.toNat : Int) = 34) : qLen (c :: r) = 0 := by
  cases r with
  | nil => simp only [qLen, if_pos h]
  | cons d r => simp only [qLen, if_pos h]
theorem qLen_cut (c : UInt8) (h : (c.toNat : Int) = 92) : qLen [c] = 1 := by simp only [qLen]; rw [if_neg (by omega)]
theorem qLen_esc (c d : UInt8) (r : List UInt8) (h : (c.toNat : Int) = 92) : qLen (c :: d :: r) = 2 + qLen r := by
  simp only [qLen]; rw [if_neg (by omega), if_pos h]
theorem qLen_take (c : UInt8) (r : List UInt8) (h1 : ¬ (c.toNat : Int) = 34) (h2 : ¬ (c.toNat : Int) = 92) : qLen (c :: r) = 1 + qLen r := by
  cases r with
  | nil => simp only [qLen, if_neg h1]
  | cons d r => simp only [qLen, if_neg h1, if_neg h2]
theorem qLen_le : ∀ l : List UInt8, qLen l ≤ l.length
  | [] => by simp [qLen]
  | [c] => by simp only [qLen]; split <;> simp
  | c :: d :: r => by
    have h1 := qLen_le r
    have h2 := qLen_le (d :: r)
    simp only [qLen, List.length_cons] at h2 ⊢
    split
    · omega
    · split <;> omega
theorem unq_ends : ∀ (acc l : List UInt8), (unq acc l).2 = decide (qLen l + 1 = l.length)
  | acc, [] => by simp [unq]
  | acc, [c] => by simp only [unq, qLen]; split <;> simp
  | acc, c :: d :: r => by
    have h1 := unq_ends (acc ++ [d]) r
    have h2 := unq_ends (acc ++ [c]) (d :: r)
    simp only [unq, qLen]
    split
    · simp
    · split
      · rw [h1]; simp only [List.length_cons]; exact decide_eq_decide.2 (by omega)
      · rw [h2]; simp only [List.length_cons]; exact decide_eq_decide.2 (by omega)
/-- Where the quote that stands at b is ended. -/
def qEnd (l : List UInt8) (b : Nat) : Nat := b + 1 + qLen (l.drop (b + 1))
theorem unqB_ends (s : ByteArray) : unqB s = (decide (s.data.toList.head? = some 34) && decide (qEnd s.data.toList 0 + 1 = s.size) && plainL s.data.toList) := by
  have hz : s.size = s.data.toList.length := by simp
  rw [hz]
  unfold unqB unqT qEnd
  generalize s.data.toList = l
  cases l with
  | nil => simp
  | cons c t =>
    by_cases h : 2 ≤ (c :: t).length ∧ (c :: t).head? = some 34 ∧ plainL (c :: t) = true
    · rw [if_pos h, unq_ends, h.2.1, h.2.2]
      simp only [List.tail_cons, Bool.and_true, decide_true, Bool.true_and, Nat.zero_add, List.drop_succ_cons, List.drop_zero, List.length_cons]
      exact decide_eq_decide.2 (by omega)
    · rw [if_neg h]
      by_cases a : (c :: t).head? = some 34 ∧ plainL (c :: t) = true
      · have : ¬ 2 ≤ (c :: t).length := fun x => h ⟨x, a⟩
        have ht : t = [] := List.eq_nil_of_length_eq_zero (by simp only [List.length_cons] at this; omega)
        subst ht
        simp [qLen]
      · symm
        simp only [Bool.and_eq_false_iff, decide_eq_false_iff_not]
        by_cases b1 : (c :: t).head? = some 34
        · right; cases hp : plainL (c :: t)
          · rfl
          · exact absurd ⟨b1, hp⟩ a
        · left; left; exact b1
end Go.Proofs.YtmnblligifgcjaaGreatDoor
/-
  A text cut at commas that do not stand between quotes, plainly.
-/
namespace Go.Proofs.YtmnblligifgcjaaGreatDoor
/-- The pieces; cur: what stands already in the one that is under way. -/
def pcs (ins : Bool) (cur : List UInt8) : List UInt8 → List (List UInt8)
  | [] => [cur]
  | [c] => if ins = true ∧ (c.toNat : Int) = 92 then [cur ++ [c]] else if (c.toNat : Int) = 34 then [cur ++ [c]] else if (c.toNat : Int) = 44 ∧ ins = false then [cur, []] else [cur ++ [c]]
  | c :: d :: r => if ins = true ∧ (c.toNat : Int) = 92 then pcs ins (cur ++ [c, d]) r else if (c.toNat : Int) = 34 then pcs (!ins) (cur ++ [c]) (d :: r) else if (c.toNat : Int) = 44 ∧ ins = false then cur :: pcs ins [] (d :: r) else pcs ins (cur ++ [c]) (d :: r)
theorem pcs_cut {cur : List UInt8} {c : UInt8} (h : (c.toNat : Int) = 92) : pcs true cur [c] = [cur ++ [c]] := by simp only [pcs]; rw [if_pos ⟨trivial, h⟩]
theorem pcs_esc {cur r : List UInt8} {c d : UInt8} (h : (c.toNat : Int) = 92) : pcs true cur (c :: d :: r) = pcs true (cur ++ [c, d]) r := by simp only [pcs]; rw [if_pos ⟨trivial, h⟩]
theorem pcs_quote {ins : Bool} {cur r : List UInt8} {c : UInt8} (h : (c.toNat : Int) = 34) : pcs ins cur (c :: r) = pcs (!ins) (cur ++ [c]) r := by
  have n : ¬ (ins = true ∧ (c.toNat : Int) = 92) := by omega
  cases r with
  | nil => simp only [pcs]; rw [if_neg n, if_pos h]
  | cons d r => simp only [pcs]; rw [if_neg n, if_pos h]
theorem pcs_comma {cur r : List UInt8} {c : UInt8} (h : (c.toNat : Int) = 44) : pcs false cur (c :: r) = cur :: pcs false [] r := by
  have n : ¬ (false = true ∧ (c.toNat : Int) = 92) := by omega
  have n2 : ¬ (c.toNat : Int) = 34 := by omega
  cases r with
  | nil => simp only [pcs]; rw [if_neg n, if_neg n2, if_pos ⟨h, trivial⟩]
  | cons d r => simp only [pcs]; rw [if_neg n, if_neg n2, if_pos ⟨h, trivial⟩]
theorem pcs_take {ins : Bool} {cur r : List UInt8} {c : UInt8} (h1 : ¬ (ins = true ∧ (c.toNat : Int) = 92)) (h2 : ¬ (c.toNat : Int) = 34) (h3 : ¬ ((c.toNat : Int) = 44 ∧ ins = false)) : pcs ins cur (c :: r) = pcs ins (cur ++ [c]) r := by
  cases r with
  | nil => simp only [pcs]; rw [if_neg h1, if_neg h2, if_neg h3]
  | cons d r => simp only [pcs]; rw [if_neg h1, if_neg h2, if_neg h3]
/-- How many bytes stand in the piece that is under way. -/
def peS (ins : Bool) : List UInt8 → Nat
  | [] => 0
  | [c] => if (c.toNat : Int) = 44 ∧ ins = false then 0 else 1
  | c :: d :: r => if ins = true ∧ (c.toNat : Int) = 92 then 2 + peS ins r else if (c.toNat : Int) = 34 then 1 + peS (!ins) (d :: r) else if (c.toNat : Int) = 44 ∧ ins = false then 0 else 1 + peS ins (d :: r)
theorem peS_cut {c : UInt8} : peS true [c] = 1 := by simp only [peS]; rw [if_neg (by simp)]
theorem peS_esc {r : List UInt8} {c d : UInt8} (h : (c.toNat : Int) = 92) : peS true (c :: d :: r) = 2 + peS true r := by simp only [peS]; rw [if_pos ⟨trivial, h⟩]
theorem peS_quote {ins : Bool} {r : List UInt8} {c : UInt8} (h : (c.toNat : Int) = 34) : peS ins (c :: r) = 1 + peS (!ins) r := by
  have n : ¬ (ins = true ∧ (c.toNat : Int) = 92) := by omega
  cases r with
  | nil => simp only [peS]; rw [if_neg (by omega)]
  | cons d r => simp only [peS]; rw [if_neg n, if_pos h]
theorem peS_comma {r : List UInt8} {c : UInt8} (h : (c.toNat : Int) = 44) : peS false (c :: r) = 0 := by
  have n : ¬ (false = true ∧ (c.toNat : Int) = 92) := by omega
  have n2 : ¬ (c.toNat : Int) = 34 := by omega
  cases r with
  | nil => simp only [peS]; rw [if_pos ⟨h, trivial⟩]
  | cons d r => simp only [peS]; rw [if_neg n, if_neg n2, if_pos ⟨h, trivial⟩]
theorem peS_take {ins : Bool} {r : List UInt8} {c : UInt8} (h1 : ¬ (ins = true ∧ (c.toNat : Int) = 92)) (h2 : ¬ (c.toNat : Int) = 34) (h3 : ¬ ((c.toNat : Int) = 44 ∧ ins = false)) : peS ins (c :: r) = 1 + peS ins r := by
  cases r with
  | nil => simp only [peS]; rw [if_neg h3]
  | cons d r => simp only [peS]; rw [if_neg h1, if_neg h2, if_neg h3]
theorem peS_le (n : Nat) : ∀ (l : List UInt8) (ins : Bool), l.length ≤ n → peS ins l ≤ l.length := by
  induction n with
  | zero => intro l ins h; have : l = [] := List.eq_nil_of_length_eq_zero (by omega); subst this; simp [peS]
  | succ n ih =>
    intro l ins h
    match l with
    | [] => simp [peS]
    | [c] => simp only [peS]; split <;> simp
    | c :: d :: r =>
      have h1 := ih r ins (by simp only [List.length_cons] at h; omega)
      have h2 := ih (d :: r) ins (by simp only [List.length_cons] at h ⊢; omega)
      have h3 := ih (d :: r) (!ins) (by simp only [List.length_cons] at h ⊢; omega)
      simp only [peS, List.length_cons] at h2 h3 ⊢
      repeat' split
      all_goals omega
/-- The first piece, and the others. -/
theorem pcs_first (n : Nat) : ∀ (l : List UInt8) (ins : Bool) (cur : List UInt8), l.length ≤ n →
    pcs ins cur l = if peS ins l < l.length then (cur ++ l.take (peS ins l)) :: pcs false [] (l.drop (peS ins l + 1)) else [cur ++ l] := by
  induction n with
  | zero => intro l ins cur h; have : l = [] := List.eq_nil_of_length_eq_zero (by omega); subst this; simp [peS, pcs]
  | succ n ih =>
    intro l ins cur h
    match l with
    | [] => simp [peS, pcs]
    | c :: r =>
      have hr : r.length ≤ n := by simp only [List.length_cons] at h; omega
      by_cases c0 : ins = true ∧ (c.toNat : Int) = 92
      · obtain ⟨rfl, c0⟩ := c0
        match r with
        | [] => rw [pcs_cut c0, peS_cut]; simp
        | d :: r =>
          rw [pcs_esc c0, peS_esc c0, ih r true _ (by simp only [List.length_cons] at hr; omega)]
          by_cases q : peS true r < r.length
          · rw [if_pos q, if_pos (by simp only [List.length_cons]; omega)]
            rw [show 2 + peS true r = peS true r + 1 + 1 from by omega]
            simp
          · rw [if_neg q, if_neg (by simp only [List.length_cons]; omega)]
            simp
      · by_cases c1 : (c.toNat : Int) = 34
        · rw [pcs_quote c1, peS_quote c1, ih r _ _ hr]
          by_cases q : peS (!ins) r < r.length
          · rw [if_pos q, if_pos (by simp only [List.length_cons]; omega)]
            rw [show 1 + peS (!ins) r = peS (!ins) r + 1 from by omega]
            simp
          · rw [if_neg q, if_neg (by simp only [List.length_cons]; omega)]
            simp
        · by_cases c2 : (c.toNat : Int) = 44 ∧ ins = false
          · obtain ⟨c2, rfl⟩ := c2
            rw [pcs_comma c2, peS_comma c2, if_pos (by simp)]
            simp
          · rw [pcs_take c0 c1 c2, peS_take c0 c1 c2, ih r _ _ hr]
            by_cases q : peS ins r < r.length
            · rw [if_pos q, if_pos (by simp only [List.length_cons]; omega)]
              rw [show 1 + peS ins r = peS ins r + 1 from by omega]
              simp
            · rw [if_neg q, if_neg (by simp only [List.length_cons]; omega)]
              simp
/-- From behind a quote to the end of the piece. -/
theorem peS_in (n : Nat) : ∀ (l : List UInt8), l.length ≤ n → peS true l = if qLen l < l.length then qLen l + 1 + peS false (l.drop (qLen l + 1)) else l.length := by
  induction n with
  | zero => intro l h; have : l = [] := List.eq_nil_of_length_eq_zero (by omega); subst this; simp [peS, qLen]
  | succ n ih =>
    intro l h
    match l with
    | [] => simp [peS, qLen]
    | c :: r =>
      have hr : r.length ≤ n := by simp only [List.length_cons] at h; omega
      by_cases c1 : (c.toNat : Int) = 34
      · rw [peS_quote c1, qLen_end _ _ c1, if_pos (by simp)]
        simp
      · by_cases c0 : (c.toNat : Int) = 92
        · match r with
          | [] => rw [peS_cut, qLen_cut _ c0]; simp
          | d :: r =>
            rw [peS_esc c0, qLen_esc _ _ _ c0, ih r (by simp only [List.length_cons] at hr; omega)]
            by_cases q : qLen r < r.length
            · rw [if_pos q, if_pos (by simp only [List.length_cons]; omega)]
              rw [show 2 + qLen r + 1 = qLen r + 1 + 1 + 1 from by omega]
              simp only [List.drop_succ_cons]
              omega
            · rw [if_neg q, if_neg (by simp only [List.length_cons]; omega)]
              simp only [List.length_cons]; omega
        · rw [peS_take (fun x => c0 x.2) c1 (by simp), qLen_take _ _ c1 c0, ih r hr]
          by_cases q : qLen r < r.length
          · rw [if_pos q, if_pos (by simp only [List.length_cons]; omega)]
            rw [show 1 + qLen r + 1 = qLen r + 1 + 1 from by omega]
            simp only [List.drop_succ_cons]
            omega
          · rw [if_neg q, if_neg (by simp only [List.length_cons]; omega)]
            simp only [List.length_cons]; omega
end Go.Proofs.YtmnblligifgcjaaGreatDoor
/-
  What the model's l2Pieces answers.
-/
namespace Go.Proofs.YtmnblligifgcjaaGreatDoor
open Go.ChangeShapes Go.WideShapes Go.ChangeAt Go.RowKit
def mkB (p : List UInt8) : ByteArray := ⟨p.toArray⟩
/-- The texts lie in block g from 0 on. -/
def TextsAt (w : World) (g : Nat) (l : List ByteArray) : Prop := ∀ (i : Nat) x, l[i]? = some x → w.cell? ⟨g, i, none⟩ = some (.string x)
theorem TextsAt.keep {w w' : World} {g : Nat} {l : List ByteArray} (h : TextsAt w g l) (hb : Below w.heap.size w w') : TextsAt w' g l := by
  intro i x hx
  have c := h i x hx
  rw [hb.cell (block_lt_of_cell c)]; exact c
theorem OwnS.at {w : World} {base : Nat} {v : Value} {l : List ByteArray} (h : OwnS w base v l) (hl : l ≠ []) : ∃ g c, v = .slice (some ⟨g, 0, none⟩) l.length c ∧ TextsAt w g l := by
  have h0 := h
  obtain ⟨_, h1 | ⟨g, c, cur, rfl, _⟩⟩ := h
  · exact absurd (List.eq_nil_of_length_eq_zero h1.2) hl
  · refine ⟨g, c, rfl, fun i x hx => ?_⟩
    have := World.ownsRow.cellAt h0 i (by have := (List.getElem?_eq_some_iff.1 hx).1; omega)
    rw [this]
    simp [textsW, hx]
theorem OwnS.texts {w : World} {base g n c : Nat} {l : List ByteArray} (h : OwnS w base (.slice (some ⟨g, 0, none⟩) n c) l) : TextsAt w g l := by
  have h0 := h
  obtain ⟨_, h1 | ⟨g', c', cur, e, _⟩⟩ := h
  · exact absurd h1.1 (by simp)
  · intro i x hx
    have hi := (List.getElem?_eq_some_iff.1 hx).1
    simp only [Value.slice.injEq, Option.some.injEq, Addr.mk.injEq, and_true] at e
    obtain ⟨rfl, rfl, rfl⟩ := e
    have := World.ownsRow.cellAt h0 i (by omega)
    rw [this]
    simp [textsW, hx]
theorem ext_list (s : ByteArray) (i j : Nat) : (s.extract i j).data.toList = (s.data.toList.drop i).take (j - i) := by
  rw [ByteArray.data_extract, Array.toList_extract, List.extract_eq_take_drop]
theorem ext_mk (s : ByteArray) (i j : Nat) : s.extract i j = mkB ((s.data.toList.drop i).take (j - i)) := by
  unfold mkB
  rw [← ext_list]
theorem cur_snoc (s : ByteArray) (f k : Nat) (hf : f ≤ k) (hk : k < s.size) : (s.data.toList.drop f).take (k + 1 - f) = (s.data.toList.drop f).take (k - f) ++ [s[k]] := by
  have hz := size_list s
  rw [show k + 1 - f = (k - f) + 1 from by omega, List.take_add_one, List.getElem?_drop, show f + (k - f) = k from by omega, List.getElem?_eq_getElem (by omega)]
  rfl
theorem cur_all (s : ByteArray) (f k : Nat) (hk : s.size ≤ k) : (s.data.toList.drop f).take (k - f) = s.data.toList.drop f := by
  have hz := size_list s
  exact List.take_of_length_le (by rw [List.length_drop]; omega)
theorem pcs_ne (l : List UInt8) (ins : Bool) (cur : List UInt8) : pcs ins cur l ≠ [] := by
  rw [pcs_first l.length l ins cur (Nat.le_refl _)]
  split <;> simp
/-- Where the walk stands: O are the pieces that are cut; the one under way began at f. -/
def PcAt (s : ByteArray) (O : List (List UInt8)) (ins : Bool) (f k : Nat) : Prop :=
  (k ≤ s.size ∧ f ≤ k ∧ pcs false [] s.data.toList = O ++ pcs ins ((s.data.toList.drop f).take (k - f)) (s.data.toList.drop k)) ∨ (k = s.size + 1 ∧ f ≤ s.size ∧ pcs false [] s.data.toList = O ++ [s.data.toList.drop f])
theorem PcAt.lt {s : ByteArray} {O : List (List UInt8)} {ins : Bool} {f k : Nat} (h : PcAt s O ins f k) (hk : k < s.size) : f ≤ k ∧ pcs false [] s.data.toList = O ++ pcs ins ((s.data.toList.drop f).take (k - f)) (s[k] :: s.data.toList.drop (k + 1)) := by
  rcases h with h | h
  · exact ⟨h.2.1, by rw [h.2.2, drop_at s k hk]⟩
  · omega
theorem PcAt.done {s : ByteArray} {O : List (List UInt8)} {ins : Bool} {f k : Nat} (h : PcAt s O ins f k) (hk : ¬ k < s.size) : f ≤ s.size ∧ pcs false [] s.data.toList = O ++ [s.data.toList.drop f] := by
  have hz := size_list s
  rcases h with h | h
  · refine ⟨by omega, ?_⟩
    rw [h.2.2, List.drop_of_length_le (i := k) (by omega), cur_all s f k (by omega)]
    rfl
  · exact h.2
theorem PcAt.esc {s : ByteArray} {O : List (List UInt8)} {f k : Nat} (h : PcAt s O true f k) (hk : k < s.size) (hc : (s[k].toNat : Int) = 92) : PcAt s O true f (k + 2) := by
  obtain ⟨hf, h⟩ := h.lt hk
  by_cases hl : k + 1 = s.size
  · right
    refine ⟨by omega, by omega, ?_⟩
    have hz := size_list s
    rw [h, List.drop_of_length_le (i := k + 1) (by omega), pcs_cut hc, ← cur_snoc s f k hf hk, cur_all s f (k + 1) (by omega)]
  · left
    refine ⟨by omega, by omega, ?_⟩
    rw [h, drop_at s (k + 1) (by omega), pcs_esc hc, cur_snoc s f (k + 1) (by omega) (by omega), cur_snoc s f k hf hk]
    simp
theorem PcAt.quote {s : ByteArray} {O : List (List UInt8)} {ins : Bool} {f k : Nat} (h : PcAt s O ins f k) (hk : k < s.size) (hc : (s[k].toNat : Int) = 34) : PcAt s O (!ins) f (k + 1) := by
  obtain ⟨hf, h⟩ := h.lt hk
  exact .inl ⟨by omega, by omega, by rw [h, pcs_quote hc, cur_snoc s f k hf hk]⟩
theorem PcAt.comma {s : ByteArray} {O : List (List UInt8)} {f k : Nat} (h : PcAt s O false f k) (hk : k < s.size) (hc : (s[k].toNat : Int) = 44) : PcAt s (O ++ [(s.data.toList.drop f).take (k - f)]) false (k + 1) (k + 1) := by
  obtain ⟨hf, h⟩ := h.lt hk
  exact .inl ⟨by omega, by omega, by rw [h, pcs_comma hc]; simp⟩
theorem PcAt.on {s : ByteArray} {O : List (List UInt8)} {ins : Bool} {f k : Nat} (h : PcAt s O ins f k) (hk : k < s.size) (h1 : ¬ (ins = true ∧ (s[k].toNat : Int) = 92)) (h2 : ¬ (s[k].toNat : Int) = 34) (h3 : ¬ ((s[k].toNat : Int) = 44 ∧ ins = false)) : PcAt s O ins f (k + 1) := by
  obtain ⟨hf, h⟩ := h.lt hk
  exact .inl ⟨by omega, by omega, by rw [h, pcs_take h1 h2 h3, cur_snoc s f k hf hk]⟩
end Go.Proofs.YtmnblligifgcjaaGreatDoor
/-
  What the model's l2Pieces answers: the walk.
-/
namespace Go.Proofs.YtmnblligifgcjaaGreatDoor
open Go.ChangeShapes Go.WideShapes Go.ChangeAt Go.RowKit
def PcsRes (s : ByteArray) (base : Nat) (e : Ending) (w : World) : Prop := ∃ g c, e = .returned (.slice (some ⟨g, 0, none⟩) (pcs false [] s.data.toList).length c) ∧ OwnS w base (.slice (some ⟨g, 0, none⟩) (pcs false [] s.data.toList).length c) ((pcs false [] s.data.toList).map mkB)
theorem PcsRes.mk {s : ByteArray} {base : Nat} {w : World} {v : Value} {L : List ByteArray} (h : (pcs false [] s.data.toList).map mkB = L) (ho : OwnS w base v L) (hn : L ≠ []) : PcsRes s base (.returned v) w := by
  obtain ⟨g, c, e, _⟩ := ho.at hn
  have hl : L.length = (pcs false [] s.data.toList).length := by rw [← h, List.length_map]
  rw [hl] at e
  exact ⟨g, c, by rw [e], by rw [h, ← e]; exact ho⟩
theorem mk_snoc (O : List (List UInt8)) (p : List UInt8) : (O ++ [p]).map mkB = O.map mkB ++ [mkB p] := by simp
set_option maxRecDepth 100000 in
set_option maxHeartbeats 8000000 in
theorem pieces_any (s : ByteArray) (w : World) (hs : s.size ≤ 1000) :
    Calls Tryz.prog 109 #[.string s] w fun e w' => PcsRes s w.heap.size e w' ∧ Below w.heap.size w w' := by
  go_enter Tryz.func109, Tryz.ntmps109
  go_wp2_with fail
  go_loopw [3, 4, 5, 6] (fun v fv iv kv wr => ∃ (k f : Nat) (ins : Bool) (O : List (List UInt8)), kv = .int .i64 k ∧ fv = .int .i64 f ∧ iv = .bool ins ∧ O.length ≤ k ∧ OwnS wr w.heap.size v (O.map mkB) ∧ PcAt s O ins f k ∧ Below w.heap.size w wr) (fun _ _ _ kv _ => s.size + 1 - (intOf kv).toNat)
  case atStart => exact ⟨0, 0, false, [], rfl, rfl, rfl, Nat.zero_le _, OwnS.made0 w w.heap.size (Nat.le_refl _), .inl ⟨Nat.zero_le _, Nat.zero_le _, rfl⟩, (Below.refl _ _).alloc (Nat.le_refl _) _⟩
  case round =>
    obtain ⟨k, f, ins, O, rfl, rfl, rfl, hO, hown, hpc, hb⟩ := hrel
    have HO : Hid (OwnS wr w.heap.size u3 (O.map mkB)) := hown
    have HP : Hid (PcAt s O ins f k) := hpc
    have hz := hb.size
    clear hown hpc
    by_cases hlt : k < s.size
    · have hfk := (HP.out.lt hlt).1
      have g : (k : Int) < s.size := by omega
      by_cases c0 : ins = true ∧ (s[k].toNat : Int) = 92
      · obtain ⟨rfl, c0⟩ := c0
        have HQ : Hid (PcAt s O true f (k + 2)) := HP.out.esc hlt c0
        have e0 : ((s[k].toNat : Int) == 92) = true := by simpa using c0
        clear HP c0
        go_wp2_with fail
        go_roundw
        case rel => exact ⟨k + 2, f, true, O, by go_num, rfl, rfl, by omega, HO.out, HQ.out, hb⟩
        case measure => simp [intOf]; omega
      · by_cases c1 : (s[k].toNat : Int) = 34
        · have HQ : Hid (PcAt s O (!ins) f (k + 1)) := HP.out.quote hlt c1
          have e1 : ((s[k].toNat : Int) == 34) = true := by simpa using c1
          have e0 : ((s[k].toNat : Int) == 92) = false := by simp; omega
          clear HP c0 c1
          cases ins
          · go_wp2_with fail
            go_roundw
            case rel => exact ⟨k + 1, f, true, O, by go_num, rfl, rfl, by omega, HO.out, HQ.out, hb⟩
            case measure => simp [intOf]; omega
          · go_wp2_with fail
            go_roundw
            case rel => exact ⟨k + 1, f, false, O, by go_num, rfl, rfl, by omega, HO.out, HQ.out, hb⟩
            case measure => simp [intOf]; omega
        · have e1 : ((s[k].toNat : Int) == 34) = false := by simpa using c1
          by_cases c2 : (s[k].toNat : Int) = 44 ∧ ins = false
          · obtain ⟨c2, rfl⟩ := c2
            have HQ : Hid (PcAt s (O ++ [(s.data.toList.drop f).take (k - f)]) false (k + 1) (k + 1)) := HP.out.comma hlt c2
            have HX : Hid (s.extract f k = mkB ((s.data.toList.drop f).take (k - f))) := ext_mk s f k
            have HM := mk_snoc O ((s.data.toList.drop f).take (k - f))
            have e2 : ((s[k].toNat : Int) == 44) = true := by simpa using c2
            have hOl : (O.map mkB).length ≤ 1000 := by rw [List.length_map]; omega
            have gf0 : (0 : Int) ≤ f := by omega
            have gf : (f : Int) ≤ k := by omega
            have gk : (k : Int) ≤ s.size := by omega
            clear HP c0 c1 c2
            generalize (s.data.toList.drop f).take (k - f) = pc at *
            generalize O.map mkB = L at *
            go_wp2_with (at_builtin; refine wpList_append_str _ rfl (.tmp 40) (.tmp 45) rfl w.heap.size _ L (s.extract f k) rfl rfl HO.out (by omega) hz ?_; intro v2 w2 HO2 hb2 hz2)
            go_roundw
            case rel => exact ⟨k + 1, k + 1, false, O ++ [pc], by go_num, by go_num, rfl, by simp; omega, by rw [HM, ← HX.out]; exact HO2, HQ.out, hb.trans hb2⟩
            case measure => simp [intOf]; omega
          · have HQ : Hid (PcAt s O ins f (k + 1)) := HP.out.on hlt c0 c1 c2
            cases ins
            · have e2 : ((s[k].toNat : Int) == 44) = false := by
                have n2 : ¬ (s[k].toNat : Int) = 44 := fun h => c2 ⟨h, rfl⟩
                simpa using n2
              clear HP c0 c1 c2
              go_wp2_with fail
              go_roundw
              case rel => exact ⟨k + 1, f, false, O, by go_num, rfl, rfl, by omega, HO.out, HQ.out, hb⟩
              case measure => simp [intOf]; omega
            · have e0 : ((s[k].toNat : Int) == 92) = false := by
                have n2 : ¬ (s[k].toNat : Int) = 92 := fun h => c0 ⟨rfl, h⟩
                simpa using n2
              clear HP c0 c1 c2
              by_cases c3 : (s[k].toNat : Int) = 44
              · have e2 : ((s[k].toNat : Int) == 44) = true := by simpa using c3
                go_wp2_with fail
                go_roundw
                case rel => exact ⟨k + 1, f, true, O, by go_num, rfl, rfl, by omega, HO.out, HQ.out, hb⟩
                case measure => simp [intOf]; omega
              · have e2 : ((s[k].toNat : Int) == 44) = false := by simpa using c3
                go_wp2_with fail
                go_roundw
                case rel => exact ⟨k + 1, f, true, O, by go_num, rfl, rfl, by omega, HO.out, HQ.out, hb⟩
                case measure => simp [intOf]; omega
    · obtain ⟨hf, hd⟩ := HP.out.done hlt
      have HX : Hid (s.extract f s.size = mkB (s.data.toList.drop f)) := by
        show _ = _
        rw [ext_mk, cur_all s f s.size (Nat.le_refl _)]
      have hkm : k ≤ 1001 := by rcases HP.out with h | h <;> omega
      have HM : Hid ((pcs false [] s.data.toList).map mkB = O.map mkB ++ [mkB (s.data.toList.drop f)]) := by
        show _ = _
        rw [hd, mk_snoc]
      have hOl : (O.map mkB).length ≤ 1001 := by rw [List.length_map]; omega
      have gf0 : (0 : Int) ≤ f := by omega
      have gf : (f : Int) ≤ s.size := by omega
      have g : ¬ (k : Int) < s.size := by omega
      clear HP hd
      generalize s.data.toList.drop f = pc at *
      generalize O.map mkB = L at *
      go_wp2_with (at_builtin; refine wpList_append_str _ rfl (.tmp 49) (.tmp 53) rfl w.heap.size _ L (s.extract f s.size) rfl rfl HO.out (by omega) hz ?_; intro v2 w2 HO2 hb2 hz2)
      go_ret
      rw [HX.out] at HO2
      exact ⟨PcsRes.mk HM.out HO2 (by simp), hb.trans hb2⟩
end Go.Proofs.YtmnblligifgcjaaGreatDoor
/-
  Lists of items in memory; the laws' own helpers over them.
-/
namespace Go.Proofs.YtmnblligifgcjaaGreatDoor
open Go.ChangeShapes Go.WideShapes Go.ChangeAt Go.RowKit
/-- An item: its name, whether it has a value, the value. -/
structure Rec where
  name : ByteArray
  has : Bool
  value : ByteArray
/-- The items l lie in block b from off on, three cells each. -/
def ItemsAt (w : World) (b off : Nat) (l : List Rec) : Prop :=
  ∀ (i : Nat) r, l[i]? = some r → w.cell? ⟨b, off + i * 3, none⟩ = some (.string r.name) ∧ w.cell? ⟨b, off + i * 3 + 1, none⟩ = some (.bool r.has) ∧ w.cell? ⟨b, off + i * 3 + 2, none⟩ = some (.string r.value)
def recV (r : Rec) : Value := .agg #[.string r.name, .bool r.has, .string r.value]
def szR (left : Int) (r : Rec) : Int := if left - (r.name.size : Int) < 0 then -1 else if left - (r.name.size : Int) - (r.value.size : Int) < 0 then -1 else left - (r.name.size : Int) - (r.value.size : Int)
/-- How much room is left behind the items; -1: none. -/
def szRs (left : Int) : List Rec → Int
  | [] => left
  | r :: l => if szR left r < 0 then -1 else szRs (szR left r) l
def szL (left : Int) (l : List Rec) : Int := if left - (l.length : Int) < 0 then -1 else szRs (left - (l.length : Int)) l
def SmallRecs (l : List Rec) : Prop := ∀ (i : Nat) r, l[i]? = some r → r.name.size ≤ maxLen ∧ r.value.size ≤ maxLen
theorem ItemsAt.keep {w w' : World} {b off : Nat} {l : List Rec} (h : ItemsAt w b off l) (hb : Below w.heap.size w w') : ItemsAt w' b off l := by
  intro i r hr
  obtain ⟨a1, a2, a3⟩ := h i r hr
  exact ⟨by rw [hb.cell (block_lt_of_cell a1)]; exact a1, by rw [hb.cell (block_lt_of_cell a2)]; exact a2, by rw [hb.cell (block_lt_of_cell a3)]; exact a3⟩
theorem szR_le (left : Int) (r : Rec) : szR left r ≤ left ∨ szR left r = -1 := by
  unfold szR
  split
  · exact .inr rfl
  · split
    · exact .inr rfl
    · left; omega
theorem drop_rec (l : List Rec) (k : Nat) (r : Rec) (h : l[k]? = some r) : l.drop k = r :: l.drop (k + 1) := by
  obtain ⟨hk, rfl⟩ := List.getElem?_eq_some_iff.1 h
  exact List.drop_eq_getElem_cons hk
end Go.Proofs.YtmnblligifgcjaaGreatDoor
/-
  An item of a trimmed piece, plainly; the items of pieces.
-/
namespace Go.Proofs.YtmnblligifgcjaaGreatDoor
/-- How many bytes stand ahead of the first '='; all of them where there is none. -/
def eqAt : List UInt8 → Nat
  | [] => 0
  | c :: r => if (c.toNat : Int) = 61 then 0 else 1 + eqAt r
theorem eqAt_le : ∀ l : List UInt8, eqAt l ≤ l.length
  | [] => by simp [eqAt]
  | c :: r => by
    have := eqAt_le r
    simp only [eqAt, List.length_cons]
    split <;> omega
/-- An item of a trimmed piece; none: it is none. -/
def readR (s : ByteArray) : Option Rec :=
  if wordS (s.extract 0 (eqAt s.data.toList)) = false then none
  else if eqAt s.data.toList = s.size then some ⟨s, false, ⟨#[]⟩⟩
  else if wordS (s.extract (eqAt s.data.toList + 1) s.size) = true then some ⟨s.extract 0 (eqAt s.data.toList), true, s.extract (eqAt s.data.toList + 1) s.size⟩
  else if unqB (s.extract (eqAt s.data.toList + 1) s.size) = true then some ⟨s.extract 0 (eqAt s.data.toList), true, unqS (s.extract (eqAt s.data.toList + 1) s.size)⟩
  else none
theorem read_noname {s : ByteArray} (h : wordS (s.extract 0 (eqAt s.data.toList)) = false) : readR s = none := by unfold readR; rw [if_pos h]
theorem read_bare {s : ByteArray} (h : wordS (s.extract 0 (eqAt s.data.toList)) = true) (h2 : eqAt s.data.toList = s.size) : readR s = some ⟨s, false, ⟨#[]⟩⟩ := by unfold readR; rw [if_neg (by rw [h]; decide), if_pos h2]
theorem read_word {s : ByteArray} (h : wordS (s.extract 0 (eqAt s.data.toList)) = true) (h2 : eqAt s.data.toList ≠ s.size) (h3 : wordS (s.extract (eqAt s.data.toList + 1) s.size) = true) : readR s = some ⟨s.extract 0 (eqAt s.data.toList), true, s.extract (eqAt s.data.toList + 1) s.size⟩ := by
  unfold readR; rw [if_neg (by rw [h]; decide), if_neg h2, if_pos h3]
theorem read_quote {s : ByteArray} (h : wordS (s.extract 0 (eqAt s.data.toList)) = true) (h2 : eqAt s.data.toList ≠ s.size) (h3 : wordS (s.extract (eqAt s.data.toList + 1) s.size) = false) (h4 : unqB (s.extract (eqAt s.data.toList + 1) s.size) = true) : readR s = some ⟨s.extract 0 (eqAt s.data.toList), true, unqS (s.extract (eqAt s.data.toList + 1) s.size)⟩ := by
  unfold readR; rw [if_neg (by rw [h]; decide), if_neg h2, if_neg (by rw [h3]; decide), if_pos h4]
theorem read_bad {s : ByteArray} (h : wordS (s.extract 0 (eqAt s.data.toList)) = true) (h2 : eqAt s.data.toList ≠ s.size) (h3 : wordS (s.extract (eqAt s.data.toList + 1) s.size) = false) (h4 : unqB (s.extract (eqAt s.data.toList + 1) s.size) = false) : readR s = none := by
  unfold readR; rw [if_neg (by rw [h]; decide), if_neg h2, if_neg (by rw [h3]; decide), if_neg (by rw [h4]; decide)]
/-- The items of pieces; none: one of them is none. -/
def readP : List (List UInt8) → Option (List Rec)
  | [] => some []
  | p :: ps => if (trimT (mkB p)).size = 0 then readP ps else
    match readR (trimT (mkB p)) with
    | none => none
    | some r => (readP ps).map (r :: ·)
theorem readP_skip {p : List UInt8} {ps : List (List UInt8)} (h : (trimT (mkB p)).size = 0) : readP (p :: ps) = readP ps := by rw [readP, if_pos h]
theorem readP_bad {p : List UInt8} {ps : List (List UInt8)} (h : (trimT (mkB p)).size ≠ 0) (hr : readR (trimT (mkB p)) = none) : readP (p :: ps) = none := by rw [readP, if_neg h, hr]
theorem readP_take {p : List UInt8} {ps : List (List UInt8)} {r : Rec} (h : (trimT (mkB p)).size ≠ 0) (hr : readR (trimT (mkB p)) = some r) : readP (p :: ps) = (readP ps).map (r :: ·) := by rw [readP, if_neg h, hr]
/-- The items of a text, and its code. -/
def parseC (s : ByteArray) : Int := if 1000 < s.size then 2 else match readP (pcs false [] s.data.toList) with
  | none => 5
  | some L => if 20 < L.length then 2 else 0
def parseL (s : ByteArray) : List Rec := if 1000 < s.size then [] else match readP (pcs false [] s.data.toList) with
  | none => []
  | some L => if 20 < L.length then [] else L
theorem parse_long {s : ByteArray} (h : 1000 < s.size) : parseC s = 2 ∧ parseL s = [] := by unfold parseC parseL; rw [if_pos h, if_pos h]; exact ⟨rfl, rfl⟩
theorem parse_bad {s : ByteArray} (h : ¬ 1000 < s.size) (hr : readP (pcs false [] s.data.toList) = none) : parseC s = 5 ∧ parseL s = [] := by unfold parseC parseL; rw [if_neg h, if_neg h, hr]; exact ⟨rfl, rfl⟩
theorem parse_many {s : ByteArray} {L : List Rec} (h : ¬ 1000 < s.size) (hr : readP (pcs false [] s.data.toList) = some L) (hL : 20 < L.length) : parseC s = 2 ∧ parseL s = [] := by
  unfold parseC parseL; rw [if_neg h, if_neg h, hr]; exact ⟨by simp only [if_pos hL], by simp only [if_pos hL]⟩
theorem parse_ok {s : ByteArray} {L : List Rec} (h : ¬ 1000 < s.size) (hr : readP (pcs false [] s.data.toList) = some L) (hL : ¬ 20 < L.length) : parseC s = 0 ∧ parseL s = L := by
  unfold parseC parseL; rw [if_neg h, if_neg h, hr]; exact ⟨by simp only [if_neg hL], by simp only [if_neg hL]⟩
end Go.Proofs.YtmnblligifgcjaaGreatDoor
