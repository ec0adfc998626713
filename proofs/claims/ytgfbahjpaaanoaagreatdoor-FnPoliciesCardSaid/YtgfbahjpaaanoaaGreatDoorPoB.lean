/-
  Texts of one claim, one behind the other.
-/
import Derived.BigQuiet
import Derived.Deep.CutRange
import Derived.Deep.RegionWith
import Derived.Deep.Slices
import Derived.Deep.Strs
import Derived.Lib.QuietBelow
import Derived.LoopIn
import Derived.LoopNIn
import Derived.Maps.AppendAt
import Derived.Maps.OwnSet
import Derived.OwnWalkIn
import Derived.RangeFuncBound
import Derived.RangeFuncBox
import Derived.RangeFuncCalls
import Derived.RangeFuncLeaves
import Derived.RangeFuncNested
import Derived.Shelf.Abstract
import Derived.Shelf.RegionOpen
import Derived.Shelf.Strings.Search2
import Derived.TacticsInMore
import Derived.WalkKit
import Derived.WalkMore
import Derived.Test.YtgfbahjpaaanoaaGreatDoorPoA
/-
  What lineFault and HeadersFault answer.
-/
namespace Go.Proofs.YtgfbahjpaaanoaaGreatDoor
open Go.ChangeShapes Go.WideShapes Go.ChangeAt Go.RowKit Go.Sort
theorem hdr_room {w w1 : World} {n v : ByteArray} {t : TypeId} (hb : Below (w.alloc (.cells #[.string n, .string v] t)).heap.size (w.alloc (.cells #[.string n, .string v] t)) w1) :
    w.heap.size < w1.heap.size ∧ w1.cell? ⟨w.heap.size, 0, none⟩ = some (.string n) ∧ w1.cell? ⟨w.heap.size, 1, none⟩ = some (.string v) ∧ Below w.heap.size w w1 := by
  rw [World.size_alloc] at hb
  have hz := hb.size
  simp only [World.size_alloc] at hz
  exact ⟨hz, by rw [hb.cell (p := ⟨w.heap.size, 0, none⟩) (Nat.lt_succ_self _)]; simp, by rw [hb.cell (p := ⟨w.heap.size, 1, none⟩) (Nat.lt_succ_self _)]; simp, ((Below.refl _ _).alloc (Nat.le_refl _) _).trans (hb.mono (Nat.le_succ _))⟩
theorem hkeep {W W' : World} (hb : Below W.heap.size W W') {p : Addr} {v : Value} (h : W.cell? p = some v) : W'.cell? p = some v := by
  rw [hb.cell (block_lt_of_cell h)]; exact h
set_option maxHeartbeats 2000000 in
theorem implLine_any (r : Hdr) (w : World) (hset : SetIs w) :
    Calls Tryz.prog 47 #[.agg #[.string r.name, .string r.value]] w fun e w' => e = .returned (.int .i64 (faultH r)) ∧ Below w.heap.size w w' := by
  obtain ⟨n, v⟩ := r
  simp only
  have HW : Hid (Calls Tryz.prog 62 #[.string n] (w.alloc (.cells #[.string n, .string v] 49)) fun e w' => e = .returned (.bool (wordS n)) ∧ Below (w.alloc (.cells #[.string n, .string v] 49)).heap.size (w.alloc (.cells #[.string n, .string v] 49)) w') := implIsWord_set n _ (hset.below ((Below.refl _ _).alloc (Nat.le_refl _) _))
  clear hset
  cases hw : wordS n
  · have HE : Hid (faultH ⟨n, v⟩ = 5) := by show _ = _; simp [faultH, hw]
    rw [hw] at HW
    clear hw
    go_enter Tryz.func47, Tryz.ntmps47
    go_wp2_with fail
    refine HW.out.mono ?_
    rintro e w1 ⟨rfl, hb1⟩
    obtain ⟨hz1, p0, p1, kb⟩ := hdr_room hb1
    have KB : Hid (Below w.heap.size w w1) := kb
    clear hb1 kb
    go_wp2_with fail
    go_ret
    exact ⟨ret_int HE.out.symm, KB.out⟩
  rw [hw] at HW
  by_cases hbig : 200 < v.size
  · have HE : Hid (faultH ⟨n, v⟩ = 2) := by show _ = _; simp only [faultH, hw]; rw [if_neg (by simp), if_pos hbig]
    have g : (200 : Int) < v.size := by omega
    clear hw
    go_enter Tryz.func47, Tryz.ntmps47
    go_wp2_with fail
    refine HW.out.mono ?_
    rintro e w1 ⟨rfl, hb1⟩
    obtain ⟨hz1, p0, p1, kb⟩ := hdr_room hb1
    have KB : Hid (Below w.heap.size w w1) := kb
    clear hb1 kb
    go_wp2_with fail
    go_ret
    exact ⟨ret_int HE.out.symm, KB.out⟩
  have g : ¬ (200 : Int) < v.size := by omega
  have HP : Hid (∀ w, Calls Tryz.prog 73 #[.string v] w fun e w' => e = .returned (.bool (plainL v.data.toList)) ∧ Below w.heap.size w w') := fun w => (allPlain_any v w (by omega)).mono fun _ _ ⟨h1, h2⟩ => ⟨h1, h2 ▸ Below.refl _ _⟩
  have HT : Hid (∀ w, Calls Tryz.prog 74 #[.string v, .string ⟨#[32, 9]⟩] w fun e w' => e = .returned (.string (trimT v)) ∧ Below w.heap.size w w') := fun w => trim_big v w (by omega)
  cases hp : plainL v.data.toList
  · have HE : Hid (faultH ⟨n, v⟩ = 5) := by show _ = _; simp only [faultH, hw]; rw [if_neg (by simp), if_neg hbig, if_pos hp]
    rw [hp] at HP
    clear hw hp hbig
    go_enter Tryz.func47, Tryz.ntmps47
    go_wp2_with fail
    refine HW.out.mono ?_
    rintro e w1 ⟨rfl, hb1⟩
    obtain ⟨hz1, p0, p1, kb⟩ := hdr_room hb1
    have KB : Hid (Below w.heap.size w w1) := kb
    clear hb1 kb
    go_wp2_with fail
    have q1 := cell_regrown p1
    have cP : ∀ d' os, Calls Tryz.prog 73 #[.string v] (grow (redrawn w1 d') os) fun e w'' => e = .returned (.bool false) ∧ ∃ p : Regrown, w'' = grow (redrawn w1 p.d) p.os := fun d' os => Calls.regrown_of (HP.out _)
    refine wp_region_quiet_below (by kernel_rfl) (by kernel_rfl) ?_
    repeat (go_big_quiet_step (first | (go_at_call 73; exact cP _ _)))
    refine wpQuiet_nil ?_
    intro W2 hW2
    have hbW2 : Below w1.heap.size w1 W2 := by
      obtain ⟨⟨d, os⟩, rfl⟩ := hW2
      exact below_regrown w1 d os
    have KB2 : Hid (Below w.heap.size w W2) := KB.out.trans (hbW2.mono KB.out.size)
    clear hW2 hbW2 cP q1 p0 p1 KB
    go_wp2_with fail
    go_ret
    exact ⟨ret_int HE.out.symm, KB2.out⟩
  rw [hp] at HP
  by_cases ht : trimT v = v
  · have HE : Hid (faultH ⟨n, v⟩ = 0) := by show _ = _; simp only [faultH, hw]; rw [if_neg (by simp), if_neg hbig, if_neg (by simp [hp]), if_pos ht]
    rw [ht] at HT
    clear hw hp hbig ht
    go_enter Tryz.func47, Tryz.ntmps47
    go_wp2_with fail
    refine HW.out.mono ?_
    rintro e w1 ⟨rfl, hb1⟩
    obtain ⟨hz1, p0, p1, kb⟩ := hdr_room hb1
    have KB : Hid (Below w.heap.size w w1) := kb
    clear hb1 kb
    go_wp2_with fail
    have q1 := cell_regrown p1
    have cP : ∀ d' os, Calls Tryz.prog 73 #[.string v] (grow (redrawn w1 d') os) fun e w'' => e = .returned (.bool true) ∧ ∃ p : Regrown, w'' = grow (redrawn w1 p.d) p.os := fun d' os => Calls.regrown_of (HP.out _)
    have cT : ∀ d' os, Calls Tryz.prog 74 #[.string v, .string ⟨#[32, 9]⟩] (grow (redrawn w1 d') os) fun e w'' => e = .returned (.string v) ∧ ∃ p : Regrown, w'' = grow (redrawn w1 p.d) p.os := fun d' os => Calls.regrown_of (HT.out _)
    refine wp_region_quiet_below (by kernel_rfl) (by kernel_rfl) ?_
    repeat (go_big_quiet_step (first | (go_at_call 73; exact cP _ _) | (go_at_call 74; exact cT _ _)))
    refine wpQuiet_nil ?_
    intro W2 hW2
    have hbW2 : Below w1.heap.size w1 W2 := by
      obtain ⟨⟨d, os⟩, rfl⟩ := hW2
      exact below_regrown w1 d os
    have KB2 : Hid (Below w.heap.size w W2) := KB.out.trans (hbW2.mono KB.out.size)
    clear hW2 hbW2 cP cT q1 p0 p1 KB
    go_wp2_with fail
    go_ret
    exact ⟨ret_int HE.out.symm, KB2.out⟩
  · have HE : Hid (faultH ⟨n, v⟩ = 5) := by show _ = _; simp only [faultH, hw]; rw [if_neg (by simp), if_neg hbig, if_neg (by simp [hp]), if_neg ht]
    have hq := hstr_ne ht
    generalize trimT v = t at *
    clear hw hp hbig ht
    go_enter Tryz.func47, Tryz.ntmps47
    go_wp2_with fail
    refine HW.out.mono ?_
    rintro e w1 ⟨rfl, hb1⟩
    obtain ⟨hz1, p0, p1, kb⟩ := hdr_room hb1
    have KB : Hid (Below w.heap.size w w1) := kb
    clear hb1 kb
    go_wp2_with fail
    have q1 := cell_regrown p1
    have cP : ∀ d' os, Calls Tryz.prog 73 #[.string v] (grow (redrawn w1 d') os) fun e w'' => e = .returned (.bool true) ∧ ∃ p : Regrown, w'' = grow (redrawn w1 p.d) p.os := fun d' os => Calls.regrown_of (HP.out _)
    have cT : ∀ d' os, Calls Tryz.prog 74 #[.string v, .string ⟨#[32, 9]⟩] (grow (redrawn w1 d') os) fun e w'' => e = .returned (.string t) ∧ ∃ p : Regrown, w'' = grow (redrawn w1 p.d) p.os := fun d' os => Calls.regrown_of (HT.out _)
    refine wp_region_quiet_below (by kernel_rfl) (by kernel_rfl) ?_
    repeat (go_big_quiet_step (first | (go_at_call 73; exact cP _ _) | (go_at_call 74; exact cT _ _)))
    refine wpQuiet_nil ?_
    intro W2 hW2
    have hbW2 : Below w1.heap.size w1 W2 := by
      obtain ⟨⟨d, os⟩, rfl⟩ := hW2
      exact below_regrown w1 d os
    have KB2 : Hid (Below w.heap.size w W2) := KB.out.trans (hbW2.mono KB.out.size)
    clear hW2 hbW2 cP cT q1 p0 p1 KB
    go_wp2_with fail
    go_ret
    exact ⟨ret_int HE.out.symm, KB2.out⟩
set_option maxRecDepth 100000 in
set_option maxHeartbeats 4000000 in
theorem implHFault_any (w : World) (a : Option Addr) (cap : Nat) (l : List Hdr) (hl : l.length ≤ 1048576) (hset : SetIs w) (hi : HdsIn w a l) :
    Calls Tryz.prog 22 #[.slice a l.length cap] w fun e w' => e = .returned (.int .i64 (headsC l)) ∧ Below w.heap.size w w' := by
  by_cases h20 : 20 < l.length
  · have HE : Hid (headsC l = 2) := headsC_many h20
    have g : (20 : Int) < (l.length : Int) := by omega
    clear hi hset
    generalize l.length = n at *
    go_enter Tryz.func22, Tryz.ntmps22
    go_wp2_with fail
    go_ret
    exact ⟨ret_int HE.out.symm, Below.refl _ _⟩
  have HC : Hid (headsC l = faultHL l) := headsC_few h20
  have HI : Hid (HdsIn w a l) := hi
  have HS : Hid (SetIs w) := hset
  clear hi hset
  generalize hn : l.length = n at *
  have HN : Hid (l.length = n) := hn
  clear hn
  have g : ¬ (20 : Int) < (n : Int) := by omega
  go_enter Tryz.func22, Tryz.ntmps22
  go_wp2_with fail
  go_loopw [11] (fun i wr => ∃ k : Nat, k ≤ n ∧ i = .int .i64 k ∧ faultHL l = faultHL (l.drop k) ∧ Below w.heap.size w wr) (fun i _ => n - (intOf i).toNat)
  case atStart => exact ⟨0, Nat.zero_le _, rfl, rfl, Below.refl _ _⟩
  case round =>
    obtain ⟨k, hk, rfl, hf, hb⟩ := hrel
    have HF : Hid (faultHL l = faultHL (l.drop k)) := hf
    clear hf
    by_cases hlt : k < n
    · obtain ⟨r, hr⟩ : ∃ r, l[k]? = some r := ⟨l[k]'(by have := HN.out; omega), List.getElem?_eq_getElem _⟩
      rcases HI.out with h | ⟨b, off, rfl, hat⟩
      · subst h; simp at hr
      obtain ⟨p1, p3⟩ := (hat.keep hb) k r hr
      have HD : Hid (l.drop k = r :: l.drop (k + 1)) := drop_hdr l k r hr
      have gk : (k : Int) < n := by omega
      have SF : Hid (∀ W, Below wr.heap.size wr W → Calls Tryz.prog 47 #[.agg #[.string r.name, .string r.value]] W fun e w' => e = .returned (.int .i64 (faultH r)) ∧ Below W.heap.size W w') := fun W h => implLine_any r W ((HS.out.below hb).below h)
      clear hr hat HI
      by_cases hfr : faultH r = 0
      · have HX : Hid (faultHL l = faultHL (l.drop (k + 1))) := by show _ = _; rw [HF.out, HD.out, faultHL_ok hfr]
        rw [hfr] at SF
        clear hfr HD HF
        obtain ⟨rn, rv⟩ := r
        simp only at p1 p3 SF
        go_wp2_with fail
        refine (SF.out _ ((Below.refl _ _).alloc (Nat.le_refl _) _)).mono ?_
        rintro e w2 ⟨rfl, hb2⟩
        obtain ⟨_, _, _, kb⟩ := hdr_room hb2
        have hbb := hb.trans (kb.mono hb.size)
        clear hb2 hb kb
        go_wp2_with fail
        go_roundw
        case rel => exact ⟨k + 1, by omega, by go_num, HX.out, hbb⟩
        case measure => simp [intOf]; omega
      · have HX : Hid (headsC l = faultH r) := by show _ = _; rw [HC.out, HF.out, HD.out, faultHL_bad hfr]
        clear HD HF HC
        obtain ⟨rn, rv⟩ := r
        simp only at p1 p3 SF
        generalize faultH ⟨rn, rv⟩ = fr at *
        go_wp2_with fail
        refine (SF.out _ ((Below.refl _ _).alloc (Nat.le_refl _) _)).mono ?_
        rintro e w2 ⟨rfl, hb2⟩
        obtain ⟨_, _, _, kb⟩ := hdr_room hb2
        have hbb := hb.trans (kb.mono hb.size)
        clear hb2 hb kb
        go_wp2_with fail
        go_ret
        exact ⟨ret_int HX.out.symm, hbb⟩
    · have HX : Hid (headsC l = 0) := by
        show _ = _
        rw [HC.out, HF.out, List.drop_of_length_le (by have := HN.out; omega)]
        rfl
      clear HF HC
      go_wp2_with fail
      go_ret
      exact ⟨ret_int HX.out.symm, hb⟩
end Go.Proofs.YtgfbahjpaaanoaaGreatDoor
/-
  What LowerText answers where the text is not too long.
-/
namespace Go.Proofs.YtgfbahjpaaanoaaGreatDoor
open Go.ChangeShapes Go.WideShapes Go.ChangeAt Go.RowKit
set_option maxHeartbeats 1000000 in
theorem implLower_any (s : ByteArray) (w : World) (hs : s.size ≤ 1000) :
    Calls Tryz.prog 63 #[.string s] w fun e w' => e = .returned (.agg #[.int .i64 0, .string (lowS s)]) ∧ Below w.heap.size w w' := by
  obtain ⟨C, cap, hcv, hrow⟩ : ∃ C cap, (convert 9 22 (.string s)).run Tryz.prog (w.alloc (.cells #[.int .i64 0, .string ⟨#[]⟩] 98)) = .ok (.slice (some ⟨w.heap.size + 1, 0, none⟩) s.size cap) ((w.alloc (.cells #[.int .i64 0, .string ⟨#[]⟩] 98)).drew.alloc (.cells C 5 (C.size, C.size + 1))) ∧ BRow ((w.alloc (.cells #[.int .i64 0, .string ⟨#[]⟩] 98)).alloc (.cells C 5 (C.size, C.size + 1))) (w.heap.size + 1) s.data.toList := by
    have h1 := run_bytes_of_string (P := Tryz.prog) (w.alloc (.cells #[.int .i64 0, .string ⟨#[]⟩] 98)) 9 22 5 s Tryz.underlying9 Tryz.underlying22 Tryz.underlying5
    have h2 := fun cap => BRow.made (w.alloc (.cells #[.int .i64 0, .string ⟨#[]⟩] 98)) s cap _ rfl
    simp only [World.size_alloc] at h1 h2
    exact ⟨_, _, h1, h2 _⟩
  have hns : ¬ (1000 : Int) < s.size := by omega
  go_enter Tryz.func63, Tryz.ntmps63
  go_wp2
  go_loopw [14] (fun i wr => ∃ k : Nat, k ≤ s.size ∧ i = .int .i64 k ∧ BRow wr (w.heap.size + 1) (lowK s.data.toList k) ∧ Below (w.heap.size + 1) (w.alloc (.cells #[.int .i64 0, .string ⟨#[]⟩] 98)) wr) (fun i _ => s.size - (intOf i).toNat)
  case atStart => exact ⟨0, Nat.zero_le _, rfl, by rw [lowK_zero]; exact ⟨hrow.cell, hrow.free⟩, ((Below.refl _ _).alloc (by simp) _).drew⟩
  case round =>
    obtain ⟨k, hk, rfl, hr, hb⟩ := hrel
    clear hcv hrow
    have hlen := lowK_length s.data.toList k
    by_cases hlt : k < s.size
    · have hl : k < s.data.toList.length := by simpa using hlt
      have hl2 : k < (lowK s.data.toList k).length := by omega
      have hc := hr.cell k hl2
      have hf := hr.free k hl2
      rw [lowK_at _ _ hl hl2] at hc
      have Y : Hid (65 ≤ (s.data.toList[k].toNat : Int) ∧ (s.data.toList[k].toNat : Int) ≤ 90 → BRow (wr.setCell ⟨w.heap.size + 1, k, none⟩ (.int .u8 ((s.data.toList[k].toNat : Int) + 32))) (w.heap.size + 1) (lowK s.data.toList (k + 1))) := by
        intro ⟨u1, u2⟩
        have := hr.set k (lowU s.data.toList[k])
        rw [lowU_yes _ u1 u2] at this
        rw [lowK_succ _ _ hl]
        exact this
      have N : Hid (¬ (65 ≤ (s.data.toList[k].toNat : Int) ∧ (s.data.toList[k].toNat : Int) ≤ 90) → BRow wr (w.heap.size + 1) (lowK s.data.toList (k + 1))) := by
        intro u
        rw [lowK_keep _ _ hl u]
        exact hr
      generalize s.data.toList[k] = x at *
      clear hr hlen hl2 hl
      by_cases hU : 65 ≤ (x.toNat : Int) ∧ (x.toNat : Int) ≤ 90
      · have R : Hid (BRow (wr.setCell ⟨w.heap.size + 1, k, none⟩ (.int .u8 ((x.toNat : Int) - 65 + 97))) (w.heap.size + 1) (lowK s.data.toList (k + 1))) := by
          have := Y.out hU
          rw [show (x.toNat : Int) + 32 = (x.toNat : Int) - 65 + 97 from by omega] at this
          exact this
        obtain ⟨u1, u2⟩ := hU
        have d2 : decide ((x.toNat : Int) ≤ 90) = true := by simpa using u2
        clear Y N
        go_wp2
        go_roundw
        case rel => exact ⟨k + 1, by omega, by go_num, R.out, hb.setCell (Nat.le_refl _) _⟩
        case measure => simp [intOf]; omega
      · have R : Hid (BRow wr (w.heap.size + 1) (lowK s.data.toList (k + 1))) := N.out hU
        clear Y N
        by_cases u1 : 65 ≤ (x.toNat : Int)
        · have u2 : 90 < (x.toNat : Int) := by omega
          have d2 : decide ((x.toNat : Int) ≤ 90) = false := by simp; omega
          clear hU
          go_wp2
          go_roundw
          case rel => exact ⟨k + 1, by omega, by go_num, R.out, hb⟩
          case measure => simp [intOf]; omega
        · clear hU
          go_wp2
          go_roundw
          case rel => exact ⟨k + 1, by omega, by go_num, R.out, hb⟩
          case measure => simp [intOf]; omega
    · have e : lowK s.data.toList k = s.data.toList.map lowU := lowK_all _ _ (by simp; omega)
      rw [e] at hr
      have hback := hr.back (P := Tryz.prog) 22 9 5 s.size cap (by simp) Tryz.underlying22 Tryz.underlying5 Tryz.underlying9
      have HL : Hid ((⟨(s.data.toList.map lowU).toArray⟩ : ByteArray) = lowS s) := rfl
      generalize (⟨(s.data.toList.map lowU).toArray⟩ : ByteArray) = r at *
      clear hr e hlen
      have p0 : wr.cell? ⟨w.heap.size, 0, none⟩ = some (.int .i64 0) := by rw [hb.cell (p := ⟨w.heap.size, 0, none⟩) (Nat.lt_succ_self _)]; simp
      have p1 : wr.cell? ⟨w.heap.size, 1, none⟩ = some (.string ⟨#[]⟩) := by rw [hb.cell (p := ⟨w.heap.size, 1, none⟩) (Nat.lt_succ_self _)]; simp
      have f0 : wr.frozen? ⟨w.heap.size, 0, none⟩ = false := by rw [hb.frozen (p := ⟨w.heap.size, 0, none⟩) (Nat.lt_succ_self _)]; simp
      have f1 : wr.frozen? ⟨w.heap.size, 1, none⟩ = false := by rw [hb.frozen (p := ⟨w.heap.size, 1, none⟩) (Nat.lt_succ_self _)]; simp
      obtain ⟨q0, q1⟩ := two_set (v0 := .int .i64 0) (v1 := .string r) p0 p1
      go_wp2
      have kb : Below w.heap.size w wr := ((Below.refl _ _).alloc (Nat.le_refl _) _).trans (hb.mono (Nat.le_succ _))
      exact bodyPost_ret (v := .agg #[.int .i64 0, .string r]) (by simp [results, Tryz.results63, go_sem, q0, q1]) rfl ⟨by rw [HL.out], (kb.setCell (Nat.le_refl _) _).setCell (Nat.le_refl _) _⟩
set_option maxHeartbeats 400000 in
theorem implLower_long (s : ByteArray) (w : World) (h : 1000 < s.size) :
    Calls Tryz.prog 63 #[.string s] w fun e w' => e = .returned (.agg #[.int .i64 2, .string ⟨#[]⟩]) ∧ Below w.heap.size w w' := by
  have hh : (1000 : Int) < s.size := by omega
  go_enter Tryz.func63, Tryz.ntmps63
  go_wp2
  exact bodyPost_ret (v := .agg #[.int .i64 2, .string ⟨#[]⟩]) (by simp [results, Tryz.results63, go_sem]) rfl ⟨rfl, (Below.refl _ _).alloc (Nat.le_refl _) _⟩
end Go.Proofs.YtgfbahjpaaanoaaGreatDoor
/-
  Fields of results; what lies in memory behind a call.
-/
namespace Go.Proofs.YtgfbahjpaaanoaaGreatDoor
open Go.ChangeShapes Go.WideShapes Go.ChangeAt Go.RowKit Go.Sort
theorem f_field_code (c : Int) (s : ByteArray) (w : World) : (Instr.field 98 (.agg #[.int .i64 c, .string s]) 0).run Tryz.prog w = .ok (.int .i64 c) w := by kernel_rfl
theorem f_field_text (c : Int) (s : ByteArray) (w : World) : (Instr.field 98 (.agg #[.int .i64 c, .string s]) 1).run Tryz.prog w = .ok (.string s) w := by kernel_rfl
theorem f_keep {W W' : World} (hb : Below W.heap.size W W') {p : Addr} {v : Value} (h : W.cell? p = some v) : W'.cell? p = some v := by
  rw [hb.cell (block_lt_of_cell h)]; exact h
theorem f_keepA {W : World} {p : Addr} {v : Value} (o : Obj) (h : W.cell? p = some v) : (W.alloc o).cell? p = some v := f_keep ((Below.refl _ _).alloc (Nat.le_refl _) _) h
end Go.Proofs.YtgfbahjpaaanoaaGreatDoor
/-
  A map of texts to places, in memory: what is asked of it, what is laid into it, what goes from it.
-/
namespace Go.Proofs.YtgfbahjpaaanoaaGreatDoor
open Go.ChangeShapes Go.WideShapes Go.ChangeAt Go.RowKit Go.Maps
open Go.WideMaps (keyOf_string_mk)
theorem isKeyL (x : ByteArray) : WideAt.IsKeyLit (.string x.data.toList) := trivial
theorem hkeyed : Keyed Tryz.prog 9 := string_keyed Tryz.underlying9
theorem hzeroInt (w : World) : (zeroValue 3).run Tryz.prog w = .ok (.int .i64 0) w := by kernel_rfl
def keyL (x : ByteArray) : Lit := .string x.data.toList
theorem keyL_ne {x y : ByteArray} (h : x ≠ y) : keyL x ≠ keyL y := by
  intro e
  unfold keyL at e
  simp only [Lit.string.injEq] at e
  exact h (ByteArray.ext (Array.ext' e))
/-- Block B is a map of at most n entries that has p's places at p's names. -/
def NamesMap (w : World) (B n : Nat) (p : ByteArray → Option Nat) : Prop :=
  ∃ D : DataW Unit, w.ownsMap Tryz.prog 9 (plainElem Tryz.prog 3) B n D ∧ ∀ x : ByteArray, Maps.has D (keyL x) = (p x).isSome ∧ ∀ i, p x = some i → D.atKey (keyL x) (.lit (.int .i64 0)) = .lit (.int .i64 (i : Int))
theorem NamesMap.lt {w : World} {B n : Nat} {p : ByteArray → Option Nat} (h : NamesMap w B n p) : B < w.heap.size := by
  obtain ⟨D, h, _⟩ := h
  exact h.lt
theorem NamesMap.below {w w' : World} {B n : Nat} {p : ByteArray → Option Nat} (h : NamesMap w B n p) (hb : Below w.heap.size w w') : NamesMap w' B n p := by
  have hl := h.lt
  obtain ⟨D, ⟨es, clock, hh, r⟩, h2⟩ := h
  exact ⟨D, ⟨es, clock, by rw [hb.block B hl]; exact hh, r⟩, h2⟩
theorem NamesMap.setCell {w : World} {B n : Nat} {p : ByteArray → Option Nat} (h : NamesMap w B n p) {a : Addr} (ha : B ≠ a.block) (u : Value) : NamesMap (w.setCell a u) B n p := by
  obtain ⟨D, h, h2⟩ := h
  exact ⟨D, h.setCell ha u, h2⟩
theorem NamesMap.made (w : World) : NamesMap (w.alloc (.map #[] 0)) w.heap.size 0 (fun _ => none) :=
  ⟨.map [], World.ownsMap_made w _ _ _, fun x => ⟨rfl, fun i h => by cases h⟩⟩
theorem NamesMap.of {w : World} {B n : Nat} {p q : ByteArray → Option Nat} (h : NamesMap w B n p) (e : ∀ x, p x = q x) : NamesMap w B n q := by
  obtain rfl : p = q := funext e
  exact h
theorem turned_below {w w' : World} {B base : Nat} (h : w.mapTurned w' B) (hb : base ≤ B) : Below base w w' :=
  (Below.refl base w).grown h.grown (by
    obtain ⟨es, clock, es', clock', hh, rfl⟩ := h
    have := (Array.getElem?_eq_some_iff.1 hh).1
    omega) (fun q hq => by cases hq; exact hb)
section
variable {ops : Array Oper} {rest : List Oper} {o : Oper} {a : Act} {Q : Exit → Act → World → Prop}
theorem wpList_look_none (w : World) (hg : o.guard = none) (m x : Operand) (hop : o.op = Op.lookup 91 m x true) (B n : Nat) (p : ByteArray → Option Nat)
    (hm : a.eval m = .map (some B)) (hown : NamesMap w B n p) (key : ByteArray) (hx : a.eval x = .string key) (hk : key.size ≤ 1048576) (hp : p key = none)
    (hK : wpList Tryz.prog ops Q rest (a.put o.dst (.tuple #[.int .i64 0, .bool false])) w) : wpList Tryz.prog ops Q (o :: rest) a w := by
  obtain ⟨D, hD, hat⟩ := hown
  have h1 : Maps.has D (keyL key) = false := by rw [(hat key).1, hp]; rfl
  refine wpList_lookup_own_ok_int w hg m x 91 hop 9 3 .i64 hkeyed Tryz.underlying91 Tryz.underlying3 (hzeroInt w) B n D hm hD _ (keyL key) hx (keyOf_string_mk Tryz.underlying9 (by unfold maxLen; omega)) ?_
  intro c hc _
  rw [atKey_of_not_has h1] at hc
  obtain rfl : c = 0 := by simpa using hc.symm
  rw [h1]
  exact hK
theorem wpList_look_some (w : World) (hg : o.guard = none) (m x : Operand) (hop : o.op = Op.lookup 91 m x true) (B n : Nat) (p : ByteArray → Option Nat)
    (hm : a.eval m = .map (some B)) (hown : NamesMap w B n p) (key : ByteArray) (hx : a.eval x = .string key) (hk : key.size ≤ 1048576) (i : Nat) (hp : p key = some i)
    (hK : wpList Tryz.prog ops Q rest (a.put o.dst (.tuple #[.int .i64 (i : Int), .bool true])) w) : wpList Tryz.prog ops Q (o :: rest) a w := by
  obtain ⟨D, hD, hat⟩ := hown
  have h1 : Maps.has D (keyL key) = true := by rw [(hat key).1, hp]; rfl
  refine wpList_lookup_own_ok_int w hg m x 91 hop 9 3 .i64 hkeyed Tryz.underlying91 Tryz.underlying3 (hzeroInt w) B n D hm hD _ (keyL key) hx (keyOf_string_mk Tryz.underlying9 (by unfold maxLen; omega)) ?_
  intro c hc _
  rw [(hat key).2 i hp] at hc
  obtain rfl : c = (i : Int) := by simpa using hc.symm
  rw [h1]
  exact hK
theorem wpList_put (w : World) (hg : o.guard = none) (m x v : Operand) (hop : o.op = Op.mapUpdate 91 m x v) (B n : Nat) (p : ByteArray → Option Nat)
    (hm : a.eval m = .map (some B)) (hown : NamesMap w B n p) (hn : n ≤ 1048576) (key : ByteArray) (hx : a.eval x = .string key) (hk : key.size ≤ 1048576) (i : Nat) (hi : i ≤ 1048576) (hv : a.eval v = .int .i64 (i : Int)) (base : Nat) (hbase : base ≤ B)
    (hK : ∀ w', NamesMap w' B (n + 1) (fun y => if y = key then some i else p y) → Below base w w' → wpList Tryz.prog ops Q rest (a.put o.dst undef) w') : wpList Tryz.prog ops Q (o :: rest) a w := by
  obtain ⟨D, hD, hat⟩ := hown
  refine wpList_mapUpdate_in w hg m x v 91 hop 9 3 hkeyed Tryz.underlying91 _ B n D hm hD (by unfold maxLen; omega) _ _ (keyL key) hx hv (keyOf_string_mk Tryz.underlying9 (by unfold maxLen; omega)) (.lit (.int .i64 (i : Int))) [] (plainElem_int Tryz.underlying3 (WalkArith.wf_i64 (by omega))) ?_
  intro w' hD' ht
  refine hK w' ⟨_, hD', fun y => ?_⟩ (turned_below ht hbase)
  by_cases e : y = key
  · subst e
    simp only [if_true]
    refine ⟨has_put_same hD.isMap (isKeyL _) _, fun j hj => ?_⟩
    obtain rfl := Option.some.inj hj
    exact atKey_put_same hD.isMap (isKeyL _) _ _
  · simp only [if_neg e]
    rw [has_put_other (keyL_ne e), atKey_put_other (keyL_ne e)]
    exact hat y
theorem wpList_del (w : World) (hg : o.guard = none) (m x : Operand) (hop : o.op = Op.call { callee := Callee.builtin Builtin.delete, args := #[m, x], argTypes := #[91, 9] }) (B n : Nat) (p : ByteArray → Option Nat)
    (hm : a.eval m = .map (some B)) (hown : NamesMap w B n p) (key : ByteArray) (hx : a.eval x = .string key) (hk : key.size ≤ 1048576) (base : Nat) (hbase : base ≤ B)
    (hK : ∀ w', NamesMap w' B n (fun y => if y = key then none else p y) → Below base w w' → wpList Tryz.prog ops Q rest (a.put o.dst (.tuple #[])) w') : wpList Tryz.prog ops Q (o :: rest) a w := by
  obtain ⟨D, hD, hat⟩ := hown
  refine wpList_delete_own w hg m x 91 9 hop 3 hkeyed Tryz.underlying91 _ B n D hm hD _ (keyL key) hx (keyOf_string_mk Tryz.underlying9 (by unfold maxLen; omega)) ?_
  intro w' hD' ht
  refine hK w' ⟨_, hD', fun y => ?_⟩ (turned_below ht hbase)
  by_cases e : y = key
  · subst e
    simp only [if_true]
    exact ⟨has_del_same, fun j hj => by cases hj⟩
  · simp only [if_neg e]
    rw [has_del_other (keyL_ne e), atKey_del_other (keyL_ne e)]
    exact hat y
end
end Go.Proofs.YtgfbahjpaaanoaaGreatDoor
/-
  Names that are alike; what is asked ahead by all that look for a name.
-/
namespace Go.Proofs.YtgfbahjpaaanoaaGreatDoor
open Go.ChangeShapes Go.WideShapes Go.ChangeAt Go.RowKit Go.Sort
theorem lowS_size (s : ByteArray) : (lowS s).size = s.size := by
  show ((s.data.toList.map lowU).toArray).size = s.data.size
  rw [List.size_toArray, List.length_map, Array.length_toList]
set_option maxHeartbeats 1000000 in
theorem smallName_any (s : ByteArray) (w : World) (hs : s.size ≤ 1000) :
    Calls Tryz.prog 49 #[.string s] w fun e w' => e = .returned (.string (lowS s)) ∧ Below w.heap.size w w' := by
  have HC := implLower_any s w hs
  have hf := f_field_text
  generalize lowS s = q at *
  go_enter Tryz.func49, Tryz.ntmps49
  go_wp2_with fail
  refine HC.mono ?_
  rintro e w1 ⟨rfl, hb⟩
  go_wp2_with fail
  go_ret
  exact ⟨rfl, hb⟩
set_option maxHeartbeats 1000000 in
theorem l4Alike_any (s t : ByteArray) (w : World) (hs : s.size ≤ 1048576) (ht : t.size ≤ 1048576) :
    Calls Tryz.prog 87 #[.string s, .string t] w fun e w' => e = .returned (.bool (decide (lowS s = lowS t))) ∧ Below w.heap.size w w' := by
  have H1 : Hid (∀ w, Calls Tryz.prog 118 #[.string s] w fun e w' => e = .returned (.string (lowS s)) ∧ Below w.heap.size w w') := fun w => l1Lower_any s w hs
  have H2 : Hid (∀ w, Calls Tryz.prog 118 #[.string t] w fun e w' => e = .returned (.string (lowS t)) ∧ Below w.heap.size w w') := fun w => l1Lower_any t w ht
  by_cases he : lowS s = lowS t
  · have HE : Hid (decide (lowS s = lowS t) = true) := by show _ = _; simpa using he
    rw [he] at H1
    clear he
    generalize lowS t = q at *
    go_enter Tryz.func87, Tryz.ntmps87
    go_wp2_with fail
    refine (H1.out _).mono ?_
    rintro e w1 ⟨rfl, hb1⟩
    go_wp2_with fail
    refine (H2.out _).mono ?_
    rintro e w2 ⟨rfl, hb2⟩
    have hbb := hb1.trans (hb2.mono hb1.size)
    clear hb1 hb2
    go_wp2_with fail
    go_ret
    exact ⟨ret_bool HE.out.symm, hbb⟩
  · have HE : Hid (decide (lowS s = lowS t) = false) := by show _ = _; simpa using he
    have hq := hstr_ne he
    clear he
    generalize lowS t = q at *
    generalize lowS s = p at *
    go_enter Tryz.func87, Tryz.ntmps87
    go_wp2_with fail
    refine (H1.out _).mono ?_
    rintro e w1 ⟨rfl, hb1⟩
    go_wp2_with fail
    refine (H2.out _).mono ?_
    rintro e w2 ⟨rfl, hb2⟩
    have hbb := hb1.trans (hb2.mono hb1.size)
    clear hb1 hb2
    go_wp2_with fail
    go_ret
    exact ⟨ret_bool HE.out.symm, hbb⟩
set_option maxHeartbeats 1000000 in
theorem namedFault_any (w : World) (a : Option Addr) (cap : Nat) (l : List Hdr) (name : ByteArray) (hl : l.length ≤ 1048576) (hset : SetIs w) (hi : HdsIn w a l) :
    Calls Tryz.prog 78 #[.slice a l.length cap, .string name] w fun e w' => e = .returned (.int .i64 (askC l name)) ∧ Below w.heap.size w w' := by
  have HF := implHFault_any w a cap l hl hset hi
  have HS : Hid (SetIs w) := hset
  clear hi hset
  by_cases h0 : headsC l = 0
  · rw [h0] at HF
    generalize l.length = n at *
    cases hw : wordS name
    · have HE : Hid (askC l name = 5) := askC_text h0 hw
      have HW : Hid (wordS name = false) := hw
      clear h0 hw
      go_enter Tryz.func78, Tryz.ntmps78
      go_wp2_with fail
      refine HF.mono ?_
      rintro e w1 ⟨rfl, hb1⟩
      go_wp2_with fail
      refine (implIsWord_set name _ (HS.out.below hb1)).mono ?_
      rintro e w2 ⟨rfl, hb2⟩
      rw [HW.out]
      have hbb := hb1.trans (hb2.mono hb1.size)
      clear hb1 hb2
      go_wp2_with fail
      go_ret
      exact ⟨ret_int HE.out.symm, hbb⟩
    · have HE : Hid (askC l name = 0) := askC_word h0 hw
      have HW : Hid (wordS name = true) := hw
      clear h0 hw
      go_enter Tryz.func78, Tryz.ntmps78
      go_wp2_with fail
      refine HF.mono ?_
      rintro e w1 ⟨rfl, hb1⟩
      go_wp2_with fail
      refine (implIsWord_set name _ (HS.out.below hb1)).mono ?_
      rintro e w2 ⟨rfl, hb2⟩
      rw [HW.out]
      have hbb := hb1.trans (hb2.mono hb1.size)
      clear hb1 hb2
      go_wp2_with fail
      go_ret
      exact ⟨ret_int HE.out.symm, hbb⟩
  · have HE : Hid (askC l name = headsC l) := askC_bad h0
    generalize headsC l = fc at *
    generalize l.length = n at *
    go_enter Tryz.func78, Tryz.ntmps78
    go_wp2_with fail
    refine HF.mono ?_
    rintro e w1 ⟨rfl, hb1⟩
    go_wp2_with fail
    go_ret
    exact ⟨ret_int HE.out.symm, hb1⟩
set_option maxHeartbeats 1000000 in
theorem hclone_any (s : ByteArray) (w : World) (hs : s.size ≤ 1048576) :
    Calls Tryz.prog 79 #[.string s] w fun e w' => e = .returned (.string s) ∧ Below w.heap.size w w' := by
  go_enter Tryz.func79, Tryz.ntmps79
  go_wp2_with fail
  refine (Any.stringslite_Clone Tryz.laysM316 s _ (by omega)).mono ?_
  rintro e w1 ⟨rfl, hb⟩
  go_wp2
  go_ret
  exact ⟨rfl, hb⟩
theorem hdr_free {w w1 : World} {t : TypeId} (hb : Below (w.heap.size + 1) (w.alloc (.cells #[.string ⟨#[]⟩, .string ⟨#[]⟩] t)) w1) :
    w.heap.size < w1.heap.size ∧ w1.cell? ⟨w.heap.size, 0, none⟩ = some (.string ⟨#[]⟩) ∧ w1.cell? ⟨w.heap.size, 1, none⟩ = some (.string ⟨#[]⟩) ∧ w1.frozen? ⟨w.heap.size, 0, none⟩ = false ∧ w1.frozen? ⟨w.heap.size, 1, none⟩ = false ∧ Below w.heap.size w w1 := by
  have hz := hb.size
  simp only [World.size_alloc] at hz
  exact ⟨hz, by rw [hb.cell (p := ⟨w.heap.size, 0, none⟩) (Nat.lt_succ_self _)]; simp, by rw [hb.cell (p := ⟨w.heap.size, 1, none⟩) (Nat.lt_succ_self _)]; simp, by rw [hb.frozen (p := ⟨w.heap.size, 0, none⟩) (Nat.lt_succ_self _)]; simp, by rw [hb.frozen (p := ⟨w.heap.size, 1, none⟩) (Nat.lt_succ_self _)]; simp, ((Below.refl _ _).alloc (Nat.le_refl _) _).trans (hb.mono (Nat.le_succ _))⟩
end Go.Proofs.YtgfbahjpaaanoaaGreatDoor
/-
  The room of a TextResult behind a call.
-/
namespace Go.Proofs.YtgfbahjpaaanoaaGreatDoor
open Go.ChangeShapes Go.WideShapes Go.ChangeAt Go.RowKit
theorem text_room {w w1 : World} (hb : Below (w.heap.size + 1) (w.alloc (.cells #[.int .i64 0, .string ⟨#[]⟩] 98)) w1) :
    w.heap.size < w1.heap.size ∧ w1.cell? ⟨w.heap.size, 0, none⟩ = some (.int .i64 0) ∧ w1.cell? ⟨w.heap.size, 1, none⟩ = some (.string ⟨#[]⟩) ∧ w1.frozen? ⟨w.heap.size, 0, none⟩ = false ∧ w1.frozen? ⟨w.heap.size, 1, none⟩ = false ∧ Below w.heap.size w w1 := by
  have hz := hb.size
  simp only [World.size_alloc] at hz
  exact ⟨hz, by rw [hb.cell (p := ⟨w.heap.size, 0, none⟩) (Nat.lt_succ_self _)]; simp, by rw [hb.cell (p := ⟨w.heap.size, 1, none⟩) (Nat.lt_succ_self _)]; simp, by rw [hb.frozen (p := ⟨w.heap.size, 0, none⟩) (Nat.lt_succ_self _)]; simp, by rw [hb.frozen (p := ⟨w.heap.size, 1, none⟩) (Nat.lt_succ_self _)]; simp, ((Below.refl _ _).alloc (Nat.le_refl _) _).trans (hb.mono (Nat.le_succ _))⟩
end Go.Proofs.YtgfbahjpaaanoaaGreatDoor
/-
  What PackHeaders and its model answer.
-/
namespace Go.Proofs.YtgfbahjpaaanoaaGreatDoor
open Go.ChangeShapes Go.WideShapes Go.ChangeAt Go.RowKit Go.Sort
theorem HdsIn.ok {w : World} {a : Option Addr} {l : List Hdr} (h : HdsIn w a l) {k : Nat} {r : Hdr} (hr : l[k]? = some r) : ∃ b off, a = some ⟨b, off, none⟩ ∧ HeadsAt w b off l := by
  rcases h with h | h
  · subst h; simp at hr
  · exact h
theorem line_app (o n v : ByteArray) : (o ++ n ++ ⟨#[58, 32]⟩ ++ v ++ ⟨#[13, 10]⟩ : ByteArray).data.toList = o.data.toList ++ lineL ⟨n, v⟩ := by
  simp only [happ_list, lineL, List.append_assoc]
theorem line_app2 (o n v : ByteArray) : (o ++ (n ++ ⟨#[58, 32]⟩ ++ v ++ ⟨#[13, 10]⟩) : ByteArray).data.toList = o.data.toList ++ lineL ⟨n, v⟩ := by
  simp only [happ_list, lineL, List.append_assoc]
end Go.Proofs.YtgfbahjpaaanoaaGreatDoor
/-
  What firstPlaces and linesNamed answer.
-/
namespace Go.Proofs.YtgfbahjpaaanoaaGreatDoor
open Go.ChangeShapes Go.WideShapes Go.ChangeAt Go.RowKit Go.Sort
theorem firstAt_known {l : List Hdr} {r : Hdr} {j : Nat} (h : firstAt (lowS r.name) l = some j) (x : ByteArray) : firstAt x l = firstAt x (l ++ [r]) := by
  rw [firstAt_snoc]
  cases c : firstAt x l with
  | some i => rfl
  | none =>
    by_cases e : lowS r.name = x
    · subst e; rw [h] at c; cases c
    · simp only [if_neg e]
theorem firstAt_new {l : List Hdr} {r : Hdr} (h : firstAt (lowS r.name) l = none) (x : ByteArray) : (if x = lowS r.name then some l.length else firstAt x l) = firstAt x (l ++ [r]) := by
  rw [firstAt_snoc]
  by_cases e : x = lowS r.name
  · subst e
    rw [if_pos rfl, h]
    simp
  · rw [if_neg e]
    cases c : firstAt x l with
    | some i => rfl
    | none => simp only [if_neg (fun q => e (Eq.symm q))]
set_option maxRecDepth 100000 in
set_option maxHeartbeats 4000000 in
theorem firstPlaces_any (w : World) (a : Option Addr) (cap : Nat) (l : List Hdr) (h20 : l.length ≤ 20) (hz : ∀ (i : Nat) r, l[i]? = some r → r.name.size ≤ 64) (hi : HdsIn w a l) :
    Calls Tryz.prog 48 #[.slice a l.length cap] w fun e w' => e = .returned (.map (some w.heap.size)) ∧ NamesMap w' w.heap.size 20 (fun x => firstAt x l) ∧ Below w.heap.size w w' := by
  have HI : Hid (HdsIn w a l) := hi
  have HZ : Hid (∀ (i : Nat) r, l[i]? = some r → r.name.size ≤ 64) := hz
  clear hi hz
  generalize hn : l.length = n at *
  have HN : Hid (l.length = n) := hn
  clear hn
  have hmm := @run_makeMap Tryz.prog
  go_enter Tryz.func48, Tryz.ntmps48
  go_wp2_with fail
  go_loopw [12] (fun i wr => ∃ (k : Nat), k ≤ n ∧ i = .int .i64 k ∧ NamesMap wr w.heap.size k (fun x => firstAt x (l.take k)) ∧ Below w.heap.size w wr) (fun i _ => n - (intOf i).toNat)
  case atStart => exact ⟨0, Nat.zero_le _, rfl, NamesMap.made w, (Below.refl _ _).alloc (Nat.le_refl _) _⟩
  case round =>
    obtain ⟨k, hk, rfl, hm, hb⟩ := hrel
    have HM : Hid (NamesMap wr w.heap.size k (fun x => firstAt x (l.take k))) := hm
    clear hm
    by_cases hlt : k < n
    · obtain ⟨r, hr⟩ : ∃ r, l[k]? = some r := ⟨l[k]'(by have := HN.out; omega), List.getElem?_eq_getElem _⟩
      obtain ⟨b, off, rfl, hat⟩ := HI.out.ok hr
      obtain ⟨p1, p3⟩ := (hat.keep hb) k r hr
      have z1 := HZ.out k r hr
      have HK : Hid (l.take (k + 1) = l.take k ++ [r]) := take_hdr hr
      have hlk : Hid ((l.take k).length = k) := by show _ = _; rw [List.length_take]; have := HN.out; omega
      have gk : (k : Int) < n := by omega
      clear hr hat HI HZ
      have FS := fun j => @firstAt_known (l.take k) r j
      have FN := @firstAt_new (l.take k) r
      obtain ⟨rn, rv⟩ := r
      simp only at p1 p3 z1 FS FN
      rw [hlk.out] at FN
      have SN := fun w => smallName_any rn w (by omega)
      have sz := lowS_size rn
      generalize lowS rn = q at *
      have HSN : Hid (∀ w, Calls Tryz.prog 49 #[.string rn] w fun e w' => e = .returned (.string q) ∧ Below w.heap.size w w') := SN
      clear SN
      cases hq : firstAt q (l.take k) with
      | some j =>
        have HX : Hid (∀ x, firstAt x (l.take k) = firstAt x (l.take (k + 1))) := fun x => by rw [HK.out]; exact FS j hq x
        have HQ : Hid (firstAt q (l.take k) = some j) := hq
        clear hq FS FN HK
        go_wp2_with fail
        refine (HSN.out _).mono ?_
        rintro e w2 ⟨rfl, hb2⟩
        obtain ⟨_, _, _, kb⟩ := hdr_room hb2
        have HM2 : Hid (NamesMap w2 w.heap.size k (fun x => firstAt x (l.take k))) := HM.out.below kb
        have HB2 : Hid (Below w.heap.size w w2) := hb.trans (kb.mono hb.size)
        clear hb2 kb hb HM p1 p3
        go_wp2_with (at_lookup; refine wpList_look_some _ rfl _ _ rfl w.heap.size k _ rfl HM2.out q rfl (by omega) j HQ.out ?_)
        go_roundw
        case rel => exact ⟨k + 1, by omega, by go_num, NamesMap.of (by obtain ⟨D, h1, h2⟩ := HM2.out; exact ⟨D, h1.mono (Nat.le_succ _), h2⟩) HX.out, HB2.out⟩
        case measure => simp [intOf]; omega
      | none =>
        have HX : Hid (∀ x, (if x = q then some k else firstAt x (l.take k)) = firstAt x (l.take (k + 1))) := fun x => by rw [HK.out]; exact FN hq x
        have HQ : Hid (firstAt q (l.take k) = none) := hq
        clear hq FS FN HK
        go_wp2_with fail
        refine (HSN.out _).mono ?_
        rintro e w2 ⟨rfl, hb2⟩
        obtain ⟨_, _, _, kb⟩ := hdr_room hb2
        have HM2 : Hid (NamesMap w2 w.heap.size k (fun x => firstAt x (l.take k))) := HM.out.below kb
        have HB2 : Hid (Below w.heap.size w w2) := hb.trans (kb.mono hb.size)
        clear hb2 kb hb HM p1 p3
        go_wp2_with (first | (at_lookup; refine wpList_look_none _ rfl _ _ rfl w.heap.size k _ rfl HM2.out q rfl (by omega) HQ.out ?_) | (at_mapUpdate; refine wpList_put _ rfl _ _ _ rfl w.heap.size k _ rfl HM2.out (by omega) q rfl (by omega) k (by omega) rfl w.heap.size (Nat.le_refl _) ?_; intro w3 HM3 hb3))
        go_roundw
        case rel => exact ⟨k + 1, by omega, by go_num, HM3.of HX.out, HB2.out.trans hb3⟩
        case measure => simp [intOf]; omega
    · have HX : Hid (NamesMap wr w.heap.size 20 (fun x => firstAt x l)) := by
        have e : l.take k = l := List.take_of_length_le (by have := HN.out; omega)
        have := HM.out
        rw [e] at this
        obtain ⟨D, h1, h2⟩ := this
        exact ⟨D, h1.mono (by omega), h2⟩
      clear HM
      go_wp2_with fail
      go_ret
      exact ⟨rfl, HX.out, hb⟩
/-- What is left of the lines: those whose names the map has. -/
def keptH (p : ByteArray → Option Nat) (l : List Hdr) : List Hdr := l.filter fun r => (p (lowS r.name)).isSome
theorem keptH_yes {p : ByteArray → Option Nat} {r : Hdr} {i : Nat} (l : List Hdr) (h : p (lowS r.name) = some i) : keptH p (l ++ [r]) = keptH p l ++ [r] := by simp [keptH, h]
theorem keptH_no {p : ByteArray → Option Nat} {r : Hdr} (l : List Hdr) (h : p (lowS r.name) = none) : keptH p (l ++ [r]) = keptH p l := by simp [keptH, h]
theorem keptH_len (p : ByteArray → Option Nat) (l : List Hdr) : (keptH p l).length ≤ l.length := List.length_filter_le _ _
def KeptRes (base : Nat) (L : List Hdr) (e : Ending) (w : World) : Prop := ∃ v, e = .returned v ∧ OwnH w base v L
theorem KeptRes.mk {base : Nat} {L M : List Hdr} {w : World} {v : Value} (h : M = L) (ho : OwnH w base v L) : KeptRes base M (.returned v) w := ⟨v, rfl, h ▸ ho⟩
end Go.Proofs.YtgfbahjpaaanoaaGreatDoor
/-
  What DropHeader and its model answer.
-/
namespace Go.Proofs.YtgfbahjpaaanoaaGreatDoor
open Go.ChangeShapes Go.WideShapes Go.ChangeAt Go.RowKit Go.Sort
/-- A result: a code and head lines in memory of the call's own. -/
def HRes (c : Int) (L : List Hdr) (base : Nat) (e : Ending) (w : World) : Prop := ∃ v, e = .returned (.agg #[.int .i64 c, v]) ∧ OwnH w base v L
theorem HRes.mk {c d : Int} {L M : List Hdr} {base : Nat} {w : World} {v : Value} (h : c = d ∧ L = M) (ho : OwnH w base v M) : HRes c L base (.returned (.agg #[.int .i64 d, v])) w := ⟨v, by rw [h.1], by rw [h.2]; exact ho⟩
theorem ownH_set {w : World} {base b o : Nat} {v u : Value} {l : List Hdr} (h : OwnH w base v l) (hb : b < base) : OwnH (w.setCell ⟨b, o, none⟩ u) base v l := by
  obtain ⟨h1, h2⟩ := h
  refine ⟨h1, ?_⟩
  rcases h2 with h2 | ⟨g, c, cur, e, hg, hh, hrest⟩
  · exact .inl h2
  · exact .inr ⟨g, c, cur, e, hg, by rw [RowKit.Below.heap_setCell _ _ _ _ (by show g ≠ b; omega)]; exact hh, hrest⟩
theorem dropL_bad {l : List Hdr} {name : ByteArray} (h : askC l name ≠ 0) : dropL l name = [] := by unfold dropL; rw [if_neg h]
theorem dropL_ok {l : List Hdr} {name : ByteArray} (h : askC l name = 0) : dropL l name = dropH (lowS name) l := by unfold dropL; rw [if_pos h]
theorem dropL_len (l : List Hdr) (name : ByteArray) : (dropL l name).length ≤ 20 := by
  by_cases h : askC l name = 0
  · rw [dropL_ok h]
    have := (headsC_zero (askC_zero h).1).1
    exact Nat.le_trans (dropH_len _ _) this
  · rw [dropL_bad h]; simp
theorem asked {l : List Hdr} {name : ByteArray} (h : askC l name = 0) : l.length ≤ 20 ∧ (∀ (i : Nat) r, l[i]? = some r → r.name.size ≤ 64 ∧ r.value.size ≤ 200) ∧ name.size ≤ 64 := by
  obtain ⟨h0, hw⟩ := askC_zero h
  obtain ⟨h20, hf⟩ := headsC_zero h0
  exact ⟨h20, fun i r hr => by obtain ⟨x1, x2, _⟩ := faultH_zero (hf i r hr); exact ⟨hword_max x1, x2⟩, hword_max hw⟩
theorem keptH_drop (x : ByteArray) (l : List Hdr) : keptH (fun y => if y = x then none else firstAt y l) l = dropH x l := by
  unfold keptH dropH
  refine List.filter_congr fun r hr => ?_
  by_cases e : lowS r.name = x
  · simp [e]
  · simp only [e, not_false_eq_true, decide_true]
    cases c : firstAt (lowS r.name) l with
    | some i => rfl
    | none => exact absurd rfl (firstAt_none c r hr)
end Go.Proofs.YtgfbahjpaaanoaaGreatDoor
/-
  What JoinHeader and its model answer.
-/
namespace Go.Proofs.YtgfbahjpaaanoaaGreatDoor
open Go.ChangeShapes Go.WideShapes Go.ChangeAt Go.RowKit Go.Sort
def anyV (vs : List ByteArray) : Bool := !vs.isEmpty
theorem anyV_snoc (vs : List ByteArray) (v : ByteArray) : anyV (vs ++ [v]) = true := by simp [anyV]
theorem hret_sb {a b : ByteArray} {c d : Bool} (h1 : a = b) (h2 : c = d) : Ending.returned (.tuple #[.string a, .bool c]) = .returned (.tuple #[.string b, .bool d]) := by rw [h1, h2]
set_option maxRecDepth 100000 in
set_option maxHeartbeats 8000000 in
theorem l4Join_any (w : World) (a : Option Addr) (cap : Nat) (l : List Hdr) (name : ByteArray) (h20 : l.length ≤ 20) (hz : ∀ (i : Nat) r, l[i]? = some r → r.name.size ≤ 64 ∧ r.value.size ≤ 200) (hnm : name.size ≤ 64) (hi : HdsIn w a l) :
    Calls Tryz.prog 90 #[.slice a l.length cap, .string name] w fun e w' => e = .returned (.tuple #[.string ⟨(hjoinL (valsOf (lowS name) l)).toArray⟩, .bool (anyV (valsOf (lowS name) l))]) ∧ Below w.heap.size w w' := by
  have HI : Hid (HdsIn w a l) := hi
  have HZ : Hid (∀ (i : Nat) r, l[i]? = some r → r.name.size ≤ 64 ∧ r.value.size ≤ 200) := hz
  clear hi hz
  generalize hn : l.length = n at *
  have HN : Hid (l.length = n) := hn
  clear hn
  go_enter Tryz.func90, Tryz.ntmps90
  go_wp2_with fail
  go_loopw [6, 7, 8] (fun v f i wr => ∃ (k : Nat) (o : ByteArray) (bf : Bool), k ≤ n ∧ i = .int .i64 k ∧ v = .string o ∧ f = .bool bf ∧ o.data.toList = hjoinL (valsOf (lowS name) (l.take k)) ∧ bf = anyV (valsOf (lowS name) (l.take k)) ∧ o.size ≤ k * 202 ∧ Below w.heap.size w wr) (fun _ _ i _ => n - (intOf i).toNat)
  case atStart => exact ⟨0, ⟨#[]⟩, false, Nat.zero_le _, rfl, rfl, rfl, rfl, rfl, Nat.zero_le _, Below.refl _ _⟩
  case round =>
    obtain ⟨k, o, bf, hk, rfl, rfl, rfl, ho, hbf, hos, hb⟩ := hrel
    have HO : Hid (o.data.toList = hjoinL (valsOf (lowS name) (l.take k))) := ho
    have HBF : Hid (bf = anyV (valsOf (lowS name) (l.take k))) := hbf
    clear ho hbf
    by_cases hlt : k < n
    · obtain ⟨r, hr⟩ : ∃ r, l[k]? = some r := ⟨l[k]'(by have := HN.out; omega), List.getElem?_eq_getElem _⟩
      obtain ⟨b, off, rfl, hat⟩ := HI.out.ok hr
      obtain ⟨p1, p3⟩ := (hat.keep hb) k r hr
      obtain ⟨z1, z2⟩ := HZ.out k r hr
      have HK : Hid (l.take (k + 1) = l.take k ++ [r]) := take_hdr hr
      have gk : (k : Int) < n := by omega
      clear hr hat HI HZ
      have KY := @valsOf_yes (lowS name) r (l.take k)
      have KN := @valsOf_no (lowS name) r (l.take k)
      obtain ⟨rn, rv⟩ := r
      simp only at p1 p3 z1 z2 KY KN
      have SA := fun w => l4Alike_any rn name w (by omega) (by omega)
      by_cases he : lowS rn = lowS name
      · have HX : Hid (valsOf (lowS name) (l.take (k + 1)) = valsOf (lowS name) (l.take k) ++ [rv]) := by show _ = _; rw [HK.out]; exact KY he
        have HSA : Hid (∀ w, Calls Tryz.prog 87 #[.string rn, .string name] w fun e w' => e = .returned (.bool true) ∧ Below w.heap.size w w') := by
          rw [show decide (lowS rn = lowS name) = true from by simpa using he] at SA
          exact SA
        have HY : Hid (anyV (valsOf (lowS name) (l.take (k + 1))) = true) := by show _ = _; rw [HX.out]; exact anyV_snoc _ _
        clear SA KY KN HK he
        cases bf
        · have HV : Hid (valsOf (lowS name) (l.take k) = []) := by
            show _ = _
            have := HBF.out
            simpa [anyV] using this.symm
          have HT : Hid ((o ++ rv : ByteArray).data.toList = hjoinL (valsOf (lowS name) (l.take (k + 1)))) := by
            show _ = _
            rw [HX.out, hjoinL_snoc, happ_list, HO.out, if_pos HV.out, List.append_nil]
          have HU : Hid ((o ++ rv : ByteArray).size ≤ (k + 1) * 202) := by
            show _ ≤ _
            rw [ByteArray.size_append]; omega
          have hoz : o.size ≤ 5000 := by omega
          clear HX HV HO HBF
          go_wp2_with fail
          refine (HSA.out _).mono ?_
          rintro e w2 ⟨rfl, hb2⟩
          have HB2 : Hid (Below w.heap.size w w2) := hb.trans (hb2.mono hb.size)
          have p1 := hkeep hb2 p1
          have p3 := hkeep hb2 p3
          clear hb2 hb
          go_wp2_with fail
          go_roundw
          case rel => exact ⟨k + 1, o ++ rv, true, by omega, by go_num, rfl, rfl, HT.out, HY.out.symm, HU.out, HB2.out⟩
          case measure => simp [intOf]; omega
        · have HV : Hid (¬ valsOf (lowS name) (l.take k) = []) := by
            have := HBF.out
            intro e
            rw [e] at this
            cases this
          have HT : Hid ((o ++ ⟨#[44, 32]⟩ ++ rv : ByteArray).data.toList = hjoinL (valsOf (lowS name) (l.take (k + 1)))) := by
            show _ = _
            rw [HX.out, hjoinL_snoc, happ_list, happ_list, HO.out, if_neg HV.out]
          have HU : Hid ((o ++ ⟨#[44, 32]⟩ ++ rv : ByteArray).size ≤ (k + 1) * 202) := by
            show _ ≤ _
            rw [ByteArray.size_append, ByteArray.size_append, show (⟨#[44, 32]⟩ : ByteArray).size = 2 from rfl]; omega
          have hoz : o.size ≤ 5000 := by omega
          clear HX HV HO HBF
          go_wp2_with fail
          refine (HSA.out _).mono ?_
          rintro e w2 ⟨rfl, hb2⟩
          have HB2 : Hid (Below w.heap.size w w2) := hb.trans (hb2.mono hb.size)
          have p1 := hkeep hb2 p1
          have p3 := hkeep hb2 p3
          clear hb2 hb
          go_wp2_with fail
          go_roundw
          case rel => exact ⟨k + 1, o ++ ⟨#[44, 32]⟩ ++ rv, true, by omega, by go_num, rfl, rfl, HT.out, HY.out.symm, HU.out, HB2.out⟩
          case measure => simp [intOf]; omega
      · have HX : Hid (valsOf (lowS name) (l.take (k + 1)) = valsOf (lowS name) (l.take k)) := by show _ = _; rw [HK.out]; exact KN he
        have HSA : Hid (∀ w, Calls Tryz.prog 87 #[.string rn, .string name] w fun e w' => e = .returned (.bool false) ∧ Below w.heap.size w w') := by
          rw [show decide (lowS rn = lowS name) = false from by simpa using he] at SA
          exact SA
        clear SA KY KN HK he
        go_wp2_with fail
        refine (HSA.out _).mono ?_
        rintro e w2 ⟨rfl, hb2⟩
        have HB2 : Hid (Below w.heap.size w w2) := hb.trans (hb2.mono hb.size)
        clear hb2 hb p1 p3
        go_wp2_with fail
        go_roundw
        case rel => exact ⟨k + 1, o, bf, by omega, by go_num, rfl, rfl, by rw [HX.out]; exact HO.out, by rw [HX.out]; exact HBF.out, by omega, HB2.out⟩
        case measure => simp [intOf]; omega
    · have ek : l.take k = l := List.take_of_length_le (by have := HN.out; omega)
      have HT : Hid ((⟨(hjoinL (valsOf (lowS name) l)).toArray⟩ : ByteArray) = o) := by
        show _ = _
        have := HO.out
        rw [ek] at this
        exact (hof_list this).symm
      have HF : Hid (anyV (valsOf (lowS name) l) = bf) := by
        have := HBF.out
        rw [ek] at this
        exact this.symm
      clear HO HBF ek
      go_wp2_with fail
      go_ret2
      exact ⟨hret_sb HT.out.symm HF.out.symm, hb⟩
end Go.Proofs.YtgfbahjpaaanoaaGreatDoor
/-
  The first line of a name, on both sides; EtagOf.
-/
namespace Go.Proofs.YtgfbahjpaaanoaaGreatDoor
open Go.ChangeShapes Go.WideShapes Go.ChangeAt Go.RowKit Go.Sort
theorem first_sizes {l : List Hdr} (h : headsC l = 0) : l.length ≤ 20 ∧ ∀ (i : Nat) r, l[i]? = some r → r.name.size ≤ 64 ∧ r.value.size ≤ 200 := by
  obtain ⟨h1, h2⟩ := headsC_zero h
  refine ⟨h1, fun i r hr => ?_⟩
  have := asked (l := l) (name := ⟨#[120]⟩) (by rw [askC, if_pos h]; decide +kernel)
  exact this.2.1 i r hr
def firstV (x : ByteArray) (l : List Hdr) : ByteArray := match firstAt x l with | some i => ((l[i]?).map (·.value)).getD ⟨#[]⟩ | none => ⟨#[]⟩
def firstB (x : ByteArray) (l : List Hdr) : Bool := (firstAt x l).isSome
theorem firstV_some {x : ByteArray} {l : List Hdr} {i : Nat} {r : Hdr} (h : firstAt x l = some i) (hr : l[i]? = some r) : firstV x l = r.value ∧ firstB x l = true := by
  unfold firstV firstB
  rw [h]
  simp [hr]
theorem firstV_none {x : ByteArray} {l : List Hdr} (h : firstAt x l = none) : firstV x l = ⟨#[]⟩ ∧ firstB x l = false := by
  unfold firstV firstB
  rw [h]
  simp
theorem firstAt_at {x : ByteArray} : ∀ {l : List Hdr} {k : Nat} {r : Hdr}, firstAt x (l.take k) = none → l[k]? = some r → lowS r.name = x → firstAt x l = some k
  | [], k, r, _, h, _ => by simp at h
  | y :: l, 0, r, _, h, hx => by
    simp at h
    subst h
    rw [firstAt, if_pos hx]
  | y :: l, k + 1, r, h0, h, hx => by
    rw [List.take_succ_cons, firstAt] at h0
    split at h0
    · cases h0
    · rename_i hy
      rw [firstAt, if_neg hy, firstAt_at (Option.map_eq_none_iff.1 h0) (by simpa using h) hx]
      rfl
theorem firstAt_over {x : ByteArray} {l : List Hdr} {k : Nat} {r : Hdr} (h0 : firstAt x (l.take k) = none) (h : l[k]? = some r) (hx : ¬ lowS r.name = x) : firstAt x (l.take (k + 1)) = none := by
  rw [take_hdr h, firstAt_snoc, h0]
  simp [hx]
theorem firstV_size {x : ByteArray} {l : List Hdr} (hz : ∀ (i : Nat) r, l[i]? = some r → r.name.size ≤ 64 ∧ r.value.size ≤ 200) : (firstV x l).size ≤ 200 := by
  cases h : firstAt x l with
  | none => rw [(firstV_none h).1]; decide
  | some i =>
    have hi := firstAt_lt h
    rw [(firstV_some h (List.getElem?_eq_getElem hi)).1]
    exact (hz i _ (List.getElem?_eq_getElem hi)).2
set_option maxRecDepth 100000 in
set_option maxHeartbeats 4000000 in
theorem l6First_any (w : World) (a : Option Addr) (cap : Nat) (l : List Hdr) (name : ByteArray) (h20 : l.length ≤ 20) (hz : ∀ (i : Nat) r, l[i]? = some r → r.name.size ≤ 64 ∧ r.value.size ≤ 200) (hnm : name.size ≤ 64) (hi : HdsIn w a l) :
    Calls Tryz.prog 65 #[.slice a l.length cap, .string name] w fun e w' => e = .returned (.tuple #[.string (firstV (lowS name) l), .bool (firstB (lowS name) l)]) ∧ Below w.heap.size w w' := by
  have HI : Hid (HdsIn w a l) := hi
  have HZ : Hid (∀ (i : Nat) r, l[i]? = some r → r.name.size ≤ 64 ∧ r.value.size ≤ 200) := hz
  clear hi hz
  generalize hn : l.length = n at *
  have HN : Hid (l.length = n) := hn
  clear hn
  go_enter Tryz.func65, Tryz.ntmps65
  go_wp2_with fail
  go_loopw [6] (fun i wr => ∃ k : Nat, k ≤ n ∧ i = .int .i64 k ∧ firstAt (lowS name) (l.take k) = none ∧ Below w.heap.size w wr) (fun i _ => n - (intOf i).toNat)
  case atStart => exact ⟨0, Nat.zero_le _, rfl, rfl, Below.refl _ _⟩
  case round =>
    obtain ⟨k, hk, rfl, hf, hb⟩ := hrel
    have HF : Hid (firstAt (lowS name) (l.take k) = none) := hf
    clear hf
    by_cases hlt : k < n
    · obtain ⟨r, hr⟩ : ∃ r, l[k]? = some r := ⟨l[k]'(by have := HN.out; omega), List.getElem?_eq_getElem _⟩
      obtain ⟨b, off, rfl, hat⟩ := HI.out.ok hr
      obtain ⟨p1, p3⟩ := (hat.keep hb) k r hr
      obtain ⟨z1, z2⟩ := HZ.out k r hr
      have gk : (k : Int) < n := by omega
      have SA := fun w => l4Alike_any r.name name w (by omega) (by omega)
      by_cases he : lowS r.name = lowS name
      · obtain ⟨e1, e2⟩ := firstV_some (firstAt_at HF.out hr he) hr
        have HR : Hid (firstV (lowS name) l = r.value ∧ firstB (lowS name) l = true) := ⟨e1, e2⟩
        have HSA : Hid (∀ w, Calls Tryz.prog 87 #[.string r.name, .string name] w fun e w' => e = .returned (.bool true) ∧ Below w.heap.size w w') := by
          rw [show decide (lowS r.name = lowS name) = true from by simpa using he] at SA
          exact SA
        have HAT : Hid (HeadsAt w b off l) := hat
        have HRR : Hid (l[k]? = some r) := hr
        clear SA he e1 e2 hat hr HI HZ HF
        obtain ⟨rn, rv⟩ := r
        simp only at p1 p3 z1 z2
        go_wp2_with fail
        refine (HSA.out _).mono ?_
        rintro e w2 ⟨rfl, hb2⟩
        have KB : Hid (Below w.heap.size w w2) := hb.trans (hb2.mono hb.size)
        obtain ⟨q1, q3⟩ := (HAT.out.keep KB.out) k _ HRR.out
        clear hb2 hb p1 p3
        simp only at q1 q3
        go_wp2_with fail
        go_ret2
        exact ⟨hret_sb HR.out.1.symm HR.out.2.symm, KB.out⟩
      · have HX : Hid (firstAt (lowS name) (l.take (k + 1)) = none) := firstAt_over HF.out hr he
        have HSA : Hid (∀ w, Calls Tryz.prog 87 #[.string r.name, .string name] w fun e w' => e = .returned (.bool false) ∧ Below w.heap.size w w') := by
          rw [show decide (lowS r.name = lowS name) = false from by simpa using he] at SA
          exact SA
        clear SA he hat hr HZ HF
        obtain ⟨rn, rv⟩ := r
        simp only at p1 p3 z1 z2
        go_wp2_with fail
        refine (HSA.out _).mono ?_
        rintro e w2 ⟨rfl, hb2⟩
        have KB : Hid (Below w.heap.size w w2) := hb.trans (hb2.mono hb.size)
        clear hb2 hb p1 p3
        go_wp2_with fail
        go_roundw
        case rel => exact ⟨k + 1, by omega, by go_num, HX.out, KB.out⟩
        case measure => simp [intOf]; omega
    · have HR : Hid (firstV (lowS name) l = ⟨#[]⟩ ∧ firstB (lowS name) l = false) := by
        have e : l.take k = l := List.take_of_length_le (by have := HN.out; omega)
        have := HF.out
        rw [e] at this
        exact firstV_none this
      go_wp2_with fail
      go_ret2
      exact ⟨hret_sb HR.out.1.symm HR.out.2.symm, hb⟩
set_option maxRecDepth 100000 in
set_option maxHeartbeats 4000000 in
theorem firstValue_any (w : World) (a : Option Addr) (cap : Nat) (l : List Hdr) (name : ByteArray) (h20 : l.length ≤ 20) (hz : ∀ (i : Nat) r, l[i]? = some r → r.name.size ≤ 64 ∧ r.value.size ≤ 200) (hnm : name.size ≤ 64) (hi : HdsIn w a l) :
    Calls Tryz.prog 23 #[.slice a l.length cap, .string name] w fun e w' => e = .returned (.tuple #[.string (firstV (lowS name) l), .bool (firstB (lowS name) l)]) ∧ Below w.heap.size w w' := by
  have HP := firstPlaces_any w a cap l h20 (fun i r hr => (hz i r hr).1) hi
  have HS : Hid (∀ W, Calls Tryz.prog 49 #[.string name] W fun e w' => e = .returned (.string (lowS name)) ∧ Below W.heap.size W w') := fun W => smallName_any name W (by omega)
  have HI : Hid (HdsIn w a l) := hi
  have sz := lowS_size name
  clear hi hz
  cases hf : firstAt (lowS name) l with
  | none =>
    have HR : Hid (firstV (lowS name) l = ⟨#[]⟩ ∧ firstB (lowS name) l = false) := firstV_none hf
    have HF : Hid (firstAt (lowS name) l = none) := hf
    clear hf
    generalize l.length = n at *
    generalize lowS name = q at *
    go_enter Tryz.func23, Tryz.ntmps23
    go_wp2_with fail
    refine HP.mono ?_
    rintro e w1 ⟨rfl, hm1, hb1⟩
    have HM1 : Hid (NamesMap w1 w.heap.size 20 (fun x => firstAt x l)) := hm1
    have HB1 : Hid (Below w.heap.size w w1) := hb1
    clear hm1 hb1 HP
    go_wp2_with fail
    refine (HS.out _).mono ?_
    rintro e w2 ⟨rfl, hb2⟩
    have HM2 : Hid (NamesMap w2 w.heap.size 20 (fun x => firstAt x l)) := HM1.out.below hb2
    have HB2 : Hid (Below w.heap.size w w2) := HB1.out.trans (hb2.mono HB1.out.size)
    clear hb2 HM1 HB1 HS
    go_wp2_with (at_lookup; refine wpList_look_none _ rfl _ _ rfl w.heap.size 20 _ rfl HM2.out q rfl (by omega) HF.out ?_)
    go_ret2
    exact ⟨hret_sb HR.out.1.symm HR.out.2.symm, HB2.out⟩
  | some i =>
    have hil := firstAt_lt hf
    obtain ⟨r, hr⟩ : ∃ r, l[i]? = some r := ⟨l[i], List.getElem?_eq_getElem hil⟩
    have HR : Hid (firstV (lowS name) l = r.value ∧ firstB (lowS name) l = true) := firstV_some hf hr
    have HF : Hid (firstAt (lowS name) l = some i) := hf
    obtain ⟨b, off, rfl, hat⟩ := HI.out.ok hr
    have HAT : Hid (∀ W, Below w.heap.size w W → W.cell? ⟨b, off + i * 2, none⟩ = some (.string r.name) ∧ W.cell? ⟨b, off + i * 2 + 1, none⟩ = some (.string r.value)) := fun W hb => (hat.keep hb) i r hr
    clear hf hr hat HI
    generalize l.length = n at *
    generalize lowS name = q at *
    generalize r.value = rv at *
    generalize r.name = rn at *
    have gi1 : (i : Int) < (n : Int) := by omega
    go_enter Tryz.func23, Tryz.ntmps23
    go_wp2_with fail
    refine HP.mono ?_
    rintro e w1 ⟨rfl, hm1, hb1⟩
    have HM1 : Hid (NamesMap w1 w.heap.size 20 (fun x => firstAt x l)) := hm1
    have HB1 : Hid (Below w.heap.size w w1) := hb1
    clear hm1 hb1 HP
    go_wp2_with fail
    refine (HS.out _).mono ?_
    rintro e w2 ⟨rfl, hb2⟩
    have HM2 : Hid (NamesMap w2 w.heap.size 20 (fun x => firstAt x l)) := HM1.out.below hb2
    have HB2 : Hid (Below w.heap.size w w2) := HB1.out.trans (hb2.mono HB1.out.size)
    obtain ⟨p1, p3⟩ := HAT.out _ HB2.out
    clear hb2 HM1 HB1 HS
    go_wp2_with (at_lookup; refine wpList_look_some _ rfl _ _ rfl w.heap.size 20 _ rfl HM2.out q rfl (by omega) i HF.out ?_)
    go_ret2
    exact ⟨hret_sb HR.out.1.symm HR.out.2.symm, HB2.out⟩
/-! ### EtagOf -/
def etagN : ByteArray := ⟨#[101, 116, 97, 103]⟩
theorem etag_low : lowS ⟨#[101, 116, 97, 103]⟩ = etagN := by decide +kernel
theorem etagI_low : lowS ⟨#[69, 84, 97, 103]⟩ = etagN := by decide +kernel
def etagC (l : List Hdr) : Int := if headsC l = 0 then (if firstV etagN l = ⟨#[]⟩ then 4 else 0) else headsC l
def etagT (l : List Hdr) : ByteArray := if headsC l = 0 then firstV etagN l else ⟨#[]⟩
theorem etag_bad {l : List Hdr} (h : ¬ headsC l = 0) : etagC l = headsC l ∧ etagT l = ⟨#[]⟩ := by rw [etagC, etagT, if_neg h, if_neg h]; exact ⟨rfl, rfl⟩
theorem etag_none {l : List Hdr} (h : headsC l = 0) (h2 : firstV etagN l = ⟨#[]⟩) : etagC l = 4 ∧ etagT l = ⟨#[]⟩ := by rw [etagC, etagT, if_pos h, if_pos h, if_pos h2]; exact ⟨rfl, h2⟩
theorem etag_some {l : List Hdr} (h : headsC l = 0) (h2 : ¬ firstV etagN l = ⟨#[]⟩) : etagC l = 0 ∧ etagT l = firstV etagN l := by rw [etagC, etagT, if_pos h, if_pos h, if_neg h2]; exact ⟨rfl, rfl⟩
theorem etxt_ne {a : ByteArray} (h : ¬ a = ⟨#[]⟩) : a.toList.isEmpty = false := by
  rw [ByteArray.toList_eq]
  cases hd : a.data.toList with
  | nil => exact absurd (ByteArray.ext (Array.ext' (by rw [hd]))) h
  | cons x l => rfl
end Go.Proofs.YtgfbahjpaaanoaaGreatDoor
/-
  What JoinHeader answers.
-/
namespace Go.Proofs.YtgfbahjpaaanoaaGreatDoor
open Go.ChangeShapes Go.WideShapes Go.ChangeAt Go.RowKit Go.Sort
theorem HeadsAt.drop {w : World} {b off : Nat} {l : List Hdr} (h : HeadsAt w b off l) (i : Nat) : HeadsAt w b (off + i * 2) (l.drop i) := by
  intro j r hr
  rw [List.getElem?_drop] at hr
  obtain ⟨a, c⟩ := h (i + j) r hr
  rw [show off + (i + j) * 2 = off + i * 2 + j * 2 from by omega] at a c
  exact ⟨a, c⟩
theorem hjoinL_len (vs : List ByteArray) (h : ∀ v ∈ vs, v.size ≤ 200) : (hjoinL vs).length ≤ vs.length * 202 := by
  unfold hjoinL
  cases vs with
  | nil => simp [Lib.join, List.intercalate]
  | cons x r =>
    rw [List.map_cons, Lib.join_length]
    have hl : ∀ (l : List ByteArray), (∀ v ∈ l, v.size ≤ 200) → Lib.lens (l.map (·.data.toList)) ≤ l.length * 200 := by
      intro l
      induction l with
      | nil => intro _; simp [Lib.lens]
      | cons y l ih =>
        intro hy
        have h1 := ih fun v hv => hy v (by simp [hv])
        have h2 := hy y (by simp)
        have h3 : y.data.toList.length = y.size := by simp
        simp only [List.map_cons, Lib.lens, List.length_cons, List.sum_cons] at h1 ⊢
        omega
    have := hl (x :: r) h
    rw [List.map_cons] at this
    simp only [List.length_cons, List.length_map, List.length_nil] at this ⊢
    omega
theorem valsOf_mem {x : ByteArray} {l : List Hdr} (hz : ∀ (i : Nat) r, l[i]? = some r → r.name.size ≤ 64 ∧ r.value.size ≤ 200) : ∀ v ∈ valsOf x l, v.size ≤ 200 := by
  intro v hv
  obtain ⟨r, hr, rfl⟩ := List.mem_map.1 hv
  obtain ⟨i, hi⟩ := List.getElem?_of_mem (List.mem_filter.1 hr).1
  exact (hz i r hi).2
theorem valsOf_len (x : ByteArray) (l : List Hdr) : (valsOf x l).length ≤ l.length := by
  unfold valsOf
  rw [List.length_map]
  exact List.length_filter_le _ _
set_option maxRecDepth 100000 in
set_option maxHeartbeats 8000000 in
theorem implJoin_found (w : World) (b off cap : Nat) (l : List Hdr) (name : ByteArray) (i : Nat) (h0 : askC l name = 0) (hf : firstAt (lowS name) l = some i) (hcap : l.length ≤ cap) (hset : SetIs w) (hat : HeadsAt w b off l) :
    Calls Tryz.prog 53 #[.slice (some ⟨b, off, none⟩) l.length cap, .string name] w fun e w' => e = .returned (.agg #[.int .i64 0, .string ⟨(hjoinL (valsOf (lowS name) l)).toArray⟩]) ∧ Below w.heap.size w w' := by
  obtain ⟨h20, hz, hnm⟩ := asked h0
  have hi : HdsIn w (some ⟨b, off, none⟩) l := .inr ⟨b, off, rfl, hat⟩
  have HA : Hid (∀ W, Below w.heap.size w W → Calls Tryz.prog 78 #[.slice (some ⟨b, off, none⟩) l.length cap, .string name] W fun e w' => e = .returned (.int .i64 0) ∧ Below W.heap.size W w') := fun W hb => by
    have := namedFault_any W (some ⟨b, off, none⟩) cap l name (by omega) (hset.below hb) (hi.keep hb)
    rw [h0] at this
    exact this
  have HP : Hid (∀ W, Below w.heap.size w W → Calls Tryz.prog 48 #[.slice (some ⟨b, off, none⟩) l.length cap] W fun e w' => e = .returned (.map (some W.heap.size)) ∧ NamesMap w' W.heap.size 20 (fun x => firstAt x l) ∧ Below W.heap.size W w') := fun W hb => firstPlaces_any W _ cap l h20 (fun i r hr => (hz i r hr).1) (hi.keep hb)
  have HS : Hid (∀ W, Calls Tryz.prog 49 #[.string name] W fun e w' => e = .returned (.string (lowS name)) ∧ Below W.heap.size W w') := fun W => smallName_any name W (by omega)
  have hil := firstAt_lt hf
  have HV : Hid (valsOf (lowS name) (l.drop i) = valsOf (lowS name) l) := (valsOf_drop hf).1
  have HD : Hid (HeadsAt w b (off + i * 2) (l.drop i)) := hat.drop i
  have HZ : Hid (∀ (j : Nat) r, (l.drop i)[j]? = some r → r.name.size ≤ 64 ∧ r.value.size ≤ 200) := fun j r hr => by
    rw [List.getElem?_drop] at hr
    exact hz _ r hr
  have HF : Hid (firstAt (lowS name) l = some i) := hf
  have sz := lowS_size name
  have hJL : (hjoinL (valsOf (lowS name) l)).length ≤ 4040 := by
    have h1 := hjoinL_len _ (valsOf_mem (x := lowS name) hz)
    have h2 := valsOf_len (lowS name) l
    have h3 : (valsOf (lowS name) l).length * 202 ≤ 20 * 202 := Nat.mul_le_mul_right _ (by omega)
    omega
  have hVL : (valsOf (lowS name) l).length ≤ 20 := Nat.le_trans (valsOf_len _ _) h20
  generalize hM : l.drop i = M at *
  have hMl : M.length = l.length - i := by rw [← hM, List.length_drop]
  clear hi hz h0 hset hat hf hM
  generalize lowS name = q at *
  have hni : i < l.length := hil
  generalize hn : l.length = n at *
  have HN : Hid (M.length = n - i) := hMl
  clear hMl hil hn
  go_enter Tryz.func53, Tryz.ntmps53
  go_wp2_with fail
  refine (HA.out _ ((Below.refl _ _).alloc (Nat.le_refl _) _)).mono ?_
  rintro e w1 ⟨rfl, hb1⟩
  rw [World.size_alloc] at hb1
  have HB1 : Hid (Below (w.heap.size + 1) (w.alloc (.cells #[.int .i64 0, .string ⟨#[]⟩] 98)) w1) := hb1
  have hz1 : w.heap.size + 1 ≤ w1.heap.size := by have := hb1.size; rwa [World.size_alloc] at this
  clear hb1 HA
  go_wp2_with fail
  refine (HS.out _).mono ?_
  rintro e w2 ⟨rfl, hb2⟩
  have HB2 : Hid (Below (w.heap.size + 1) (w.alloc (.cells #[.int .i64 0, .string ⟨#[]⟩] 98)) w2) := HB1.out.trans (hb2.mono hz1)
  have hz2 : w.heap.size + 1 ≤ w2.heap.size := Nat.le_trans hz1 hb2.size
  clear hb2 HB1 HS hz1
  go_wp2_with fail
  refine (HP.out _ (text_room HB2.out).2.2.2.2.2).mono ?_
  rintro e w3 ⟨rfl, hm3, hb3⟩
  have HB3 : Hid (Below (w.heap.size + 1) (w.alloc (.cells #[.int .i64 0, .string ⟨#[]⟩] 98)) w3) := HB2.out.trans (hb3.mono hz2)
  have hz3 : w.heap.size + 1 ≤ w3.heap.size := Nat.le_trans hz2 hb3.size
  have HM3 : Hid (NamesMap w3 w2.heap.size 20 (fun x => firstAt x l)) := hm3
  clear hb3 HB2 hm3 HP hz2
  generalize w2.heap.size = B at *
  try clear w2
  have gi0 : (0 : Int) ≤ (i : Int) := by omega
  have gi1 : (i : Int) ≤ (n : Int) := by omega
  have gi2 : (n : Int) ≤ (cap : Int) := by omega
  go_wp2_with (at_lookup; refine wpList_look_some _ rfl _ _ rfl B 20 _ rfl HM3.out q rfl (by omega) i HF.out ?_)
  clear HM3
  have hm20 : n - i ≤ 20 := by omega
  generalize n - i = m at *
  go_loopw [9, 35] (fun v j wr => ∃ (k : Nat), k ≤ m ∧ j = .int .i64 k ∧ OwnS wr (w.heap.size + 1) v (valsOf q (M.take k)) ∧ Below (w.heap.size + 1) (w.alloc (.cells #[.int .i64 0, .string ⟨#[]⟩] 98)) wr) (fun _ j _ => m - (intOf j).toNat)
  case atStart => exact ⟨0, Nat.zero_le _, rfl, OwnS.nil _ _, HB3.out⟩
  case round =>
    obtain ⟨k, hk, rfl, ho, hb⟩ := hrel
    have HO : Hid (OwnS wr (w.heap.size + 1) u9 (valsOf q (M.take k))) := ho
    have hz : w.heap.size + 1 ≤ wr.heap.size := by have := hb.size; rwa [World.size_alloc] at this
    have hwr : Below w.heap.size w wr := ((Below.refl _ _).alloc (Nat.le_refl _) _).trans (hb.mono (Nat.le_succ _))
    clear ho HB3
    by_cases hlt : k < m
    · obtain ⟨r, hr⟩ : ∃ r, M[k]? = some r := ⟨M[k]'(by have := HN.out; omega), List.getElem?_eq_getElem _⟩
      obtain ⟨p1, p3⟩ := (HD.out.keep hwr) k r hr
      obtain ⟨z1, z2⟩ := HZ.out k r hr
      have HK : Hid (M.take (k + 1) = M.take k ++ [r]) := take_hdr hr
      have hlk : (valsOf q (M.take k)).length ≤ 20 := Nat.le_trans (valsOf_len _ _) (by rw [List.length_take]; omega)
      have gk : (k : Int) < m := by omega
      clear hr HD HZ hwr
      have KY := @valsOf_yes q r (M.take k)
      have KN := @valsOf_no q r (M.take k)
      obtain ⟨rn, rv⟩ := r
      simp only at p1 p3 z1 z2 KY KN
      have SN := fun w => smallName_any rn w (by omega)
      have HSN : Hid (∀ w, Calls Tryz.prog 49 #[.string rn] w fun e w' => e = .returned (.string (lowS rn)) ∧ Below w.heap.size w w') := SN
      clear SN
      by_cases he : lowS rn = q
      · have HX : Hid (valsOf q (M.take (k + 1)) = valsOf q (M.take k) ++ [rv]) := by show _ = _; rw [HK.out]; exact KY he
        rw [he] at HSN
        clear KY KN HK he
        generalize valsOf q (M.take k) = L at *
        go_wp2_with fail
        refine (HSN.out _).mono ?_
        rintro e w4 ⟨rfl, hb4⟩
        obtain ⟨hz4, c0, c1, kb⟩ := hdr_room hb4
        have HO4 : Hid (OwnS w4 (w.heap.size + 1) u9 L) := HO.out.below kb
        have HB4 : Hid (Below (w.heap.size + 1) (w.alloc (.cells #[.int .i64 0, .string ⟨#[]⟩] 98)) w4) := hb.trans (kb.mono hz)
        have hz5 : w.heap.size + 1 ≤ w4.heap.size := Nat.le_trans hz kb.size
        clear hb4 kb hb HO p1 p3
        go_wp2_with (at_builtin; refine wpList_append_str _ rfl (.tmp 44) (.tmp 47) rfl (w.heap.size + 1) _ L rv rfl rfl HO4.out (by omega) hz5 ?_; intro v6 w6 HO6 hb6 hz6)
        go_roundw
        case rel => exact ⟨k + 1, by omega, by go_num, by rw [HX.out]; exact HO6, HB4.out.trans hb6⟩
        case measure => simp [intOf]; omega
      · have HX : Hid (valsOf q (M.take (k + 1)) = valsOf q (M.take k)) := by show _ = _; rw [HK.out]; exact KN he
        have hq := hstr_ne he
        clear KY KN HK he
        generalize lowS rn = q2 at *
        generalize valsOf q (M.take k) = L at *
        go_wp2_with fail
        refine (HSN.out _).mono ?_
        rintro e w4 ⟨rfl, hb4⟩
        obtain ⟨hz4, c0, c1, kb⟩ := hdr_room hb4
        have HO4 : Hid (OwnS w4 (w.heap.size + 1) u9 L) := HO.out.below kb
        have HB4 : Hid (Below (w.heap.size + 1) (w.alloc (.cells #[.int .i64 0, .string ⟨#[]⟩] 98)) w4) := hb.trans (kb.mono hz)
        clear hb4 kb hb HO p1 p3
        go_wp2_with fail
        go_roundw
        case rel => exact ⟨k + 1, by omega, by go_num, by rw [HX.out]; exact HO4.out, HB4.out⟩
        case measure => simp [intOf]; omega
    · have ek : M.take k = M := List.take_of_length_le (by have := HN.out; omega)
      have HO2 := HO.out
      rw [ek, HV.out] at HO2
      have HJ := join_own wr _ u9 _ HO2 (by omega) (by show (hjoinL (valsOf q l)).length ≤ _; omega)
      have HT : Hid ((⟨(hjoinL (valsOf q l)).toArray⟩ : ByteArray).size ≤ 4040) := by show _ ≤ _; simpa [ByteArray.size] using hJL
      have HJ2 : Hid (Calls Tryz.prog 80 #[u9, .string ⟨#[44, 32]⟩] wr fun e w' => e = .returned (.string ⟨(hjoinL (valsOf q l)).toArray⟩) ∧ Below wr.heap.size wr w') := HJ
      obtain ⟨jt, HJT⟩ : ∃ jt, Hid ((⟨(hjoinL (valsOf q l)).toArray⟩ : ByteArray) = jt) := ⟨_, rfl⟩
      rw [HJT.out] at HT HJ2
      have hjt := HT.out
      have HBr : Hid (Below (w.heap.size + 1) (w.alloc (.cells #[.int .i64 0, .string ⟨#[]⟩] 98)) wr) := hb
      clear HT HJ HO2 HO ek hwr hb HD HZ
      go_wp2_with fail
      refine HJ2.out.mono ?_
      rintro e w4 ⟨rfl, hb4⟩
      go_wp2_with fail
      refine (hclone_any jt _ (by omega)).mono ?_
      rintro e w5 ⟨rfl, hb5⟩
      obtain ⟨hz6, q0, q1, f0, f1, kb⟩ := text_room (HBr.out.trans ((hb4.trans (hb5.mono hb4.size)).mono hz))
      obtain ⟨r0, r1⟩ := two_set (v0 := .int .i64 0) (v1 := .string jt) q0 q1
      clear hb4 hb5 HJ2 HBr
      go_wp2_with fail
      exact bodyPost_ret (v := .agg #[.int .i64 0, .string jt]) (by simp [results, Tryz.results53, go_sem, r0, r1]) rfl ⟨by rw [HJT.out], (kb.setCell (Nat.le_refl _) _).setCell (Nat.le_refl _) _⟩
set_option maxRecDepth 100000 in
set_option maxHeartbeats 4000000 in
theorem implJoin_any (w : World) (a : Option Addr) (cap : Nat) (l : List Hdr) (name : ByteArray) (hl : l.length ≤ 1048576) (hcap : l.length ≤ cap) (hset : SetIs w) (hi : HdsIn w a l) :
    Calls Tryz.prog 53 #[.slice a l.length cap, .string name] w fun e w' => e = .returned (.agg #[.int .i64 (joinC l name), .string (joinT l name)]) ∧ Below w.heap.size w w' := by
  have HA : Hid (∀ W, Below w.heap.size w W → Calls Tryz.prog 78 #[.slice a l.length cap, .string name] W fun e w' => e = .returned (.int .i64 (askC l name)) ∧ Below W.heap.size W w') := fun W hb => namedFault_any W a cap l name hl (hset.below hb) (hi.keep hb)
  by_cases h0 : askC l name = 0
  · cases hf : firstAt (lowS name) l with
    | some i =>
      have hv : ¬ valsOf (lowS name) l = [] := fun e => by rw [valsOf_first.1 e] at hf; cases hf
      rw [(join_some h0 hv).1, (join_some h0 hv).2]
      have hil := firstAt_lt hf
      rcases hi with h | ⟨b, off, rfl, hat⟩
      · subst h; simp at hil
      · exact implJoin_found w b off cap l name i h0 hf hcap hset hat
    | none =>
      have hv : valsOf (lowS name) l = [] := valsOf_first.2 hf
      rw [(join_none h0 hv).1, (join_none h0 hv).2]
      obtain ⟨h20, hz, hnm⟩ := asked h0
      have HP : Hid (∀ W, Below w.heap.size w W → Calls Tryz.prog 48 #[.slice a l.length cap] W fun e w' => e = .returned (.map (some W.heap.size)) ∧ NamesMap w' W.heap.size 20 (fun x => firstAt x l) ∧ Below W.heap.size W w') := fun W hb => firstPlaces_any W a cap l h20 (fun i r hr => (hz i r hr).1) (hi.keep hb)
      have HS : Hid (∀ W, Calls Tryz.prog 49 #[.string name] W fun e w' => e = .returned (.string (lowS name)) ∧ Below W.heap.size W w') := fun W => smallName_any name W (by omega)
      have HF : Hid (firstAt (lowS name) l = none) := hf
      have sz := lowS_size name
      rw [h0] at HA
      clear hi hz h0 h20 hset hf hv
      generalize l.length = n at *
      generalize lowS name = q at *
      go_enter Tryz.func53, Tryz.ntmps53
      go_wp2_with fail
      refine (HA.out _ ((Below.refl _ _).alloc (Nat.le_refl _) _)).mono ?_
      rintro e w1 ⟨rfl, hb1⟩
      rw [World.size_alloc] at hb1
      have HB1 : Hid (Below (w.heap.size + 1) (w.alloc (.cells #[.int .i64 0, .string ⟨#[]⟩] 98)) w1) := hb1
      have hz1 : w.heap.size + 1 ≤ w1.heap.size := by have := hb1.size; rwa [World.size_alloc] at this
      clear hb1 HA
      go_wp2_with fail
      refine (HS.out _).mono ?_
      rintro e w2 ⟨rfl, hb2⟩
      have HB2 : Hid (Below (w.heap.size + 1) (w.alloc (.cells #[.int .i64 0, .string ⟨#[]⟩] 98)) w2) := HB1.out.trans (hb2.mono hz1)
      have hz2 : w.heap.size + 1 ≤ w2.heap.size := Nat.le_trans hz1 hb2.size
      clear hb2 HB1 HS hz1
      go_wp2_with fail
      refine (HP.out _ (text_room HB2.out).2.2.2.2.2).mono ?_
      rintro e w3 ⟨rfl, hm3, hb3⟩
      obtain ⟨hz3, q0, q1, f0, f1, kb⟩ := text_room (HB2.out.trans (hb3.mono hz2))
      obtain ⟨r0, r1⟩ := two_set (v0 := .int .i64 4) (v1 := .string ⟨#[]⟩) q0 q1
      have HM3 : Hid (NamesMap w3 w2.heap.size 20 (fun x => firstAt x l)) := hm3
      clear hb3 HB2 hm3 HP hz2
      generalize w2.heap.size = B at *
      try clear w2
      go_wp2_with (at_lookup; refine wpList_look_none _ rfl _ _ rfl B 20 _ rfl HM3.out q rfl (by omega) HF.out ?_)
      exact bodyPost_ret (v := .agg #[.int .i64 4, .string ⟨#[]⟩]) (by simp [results, Tryz.results53, go_sem, r0, r1]) rfl ⟨rfl, (kb.setCell (Nat.le_refl _) _).setCell (Nat.le_refl _) _⟩
  · rw [(join_bad h0).1, (join_bad h0).2]
    clear hi hset
    generalize askC l name = fc at *
    generalize l.length = n at *
    go_enter Tryz.func53, Tryz.ntmps53
    go_wp2_with fail
    refine (HA.out _ ((Below.refl _ _).alloc (Nat.le_refl _) _)).mono ?_
    rintro e w1 ⟨rfl, hb1⟩
    rw [World.size_alloc] at hb1
    obtain ⟨hz2, q0, q1, f0, f1, kb⟩ := text_room hb1
    obtain ⟨r0, r1⟩ := two_set (v0 := .int .i64 fc) (v1 := .string ⟨#[]⟩) q0 q1
    clear hb1 HA
    go_wp2_with fail
    exact bodyPost_ret (v := .agg #[.int .i64 fc, .string ⟨#[]⟩]) (by simp [results, Tryz.results53, go_sem, r0, r1]) rfl ⟨rfl, (kb.setCell (Nat.le_refl _) _).setCell (Nat.le_refl _) _⟩
end Go.Proofs.YtgfbahjpaaanoaaGreatDoor
/-
  What the model's l2Quote answers.
-/
namespace Go.Proofs.YtgfbahjpaaanoaaGreatDoor
open Go.ChangeShapes Go.WideShapes Go.ChangeAt Go.RowKit
def quoteT (s : ByteArray) : ByteArray := ⟨(quoteL s.data.toList).toArray⟩
end Go.Proofs.YtgfbahjpaaanoaaGreatDoor
/-
  What the model's l2Unquote answers.
-/
namespace Go.Proofs.YtgfbahjpaaanoaaGreatDoor
open Go.ChangeShapes Go.WideShapes Go.ChangeAt Go.RowKit
def unqS (s : ByteArray) : ByteArray := ⟨(unqT s.data.toList).1.toArray⟩
def unqB (s : ByteArray) : Bool := (unqT s.data.toList).2
theorem ret_two {a b : ByteArray} {c d : Bool} (h1 : a = b) (h2 : c = d) : Ending.returned (.tuple #[.string a, .bool c]) = .returned (.tuple #[.string b, .bool d]) := by rw [h1, h2]
theorem unq_of {s : ByteArray} {p : List UInt8 × Bool} (h : unqT s.data.toList = p) : (⟨p.1.toArray⟩ : ByteArray) = unqS s ∧ p.2 = unqB s := by subst h; exact ⟨rfl, rfl⟩
theorem unqT_no {l : List UInt8} (h : ¬ (2 ≤ l.length ∧ l.head? = some 34 ∧ plainL l = true)) : unqT l = ([], false) := by unfold unqT; rw [if_neg h]
theorem unqT_go {l : List UInt8} (h1 : 2 ≤ l.length) (h2 : l.head? = some 34) (h3 : plainL l = true) : unqT l = unq [] (l.drop 1) := by unfold unqT; rw [if_pos ⟨h1, h2, h3⟩, List.drop_one]
theorem drop_at (s : ByteArray) (k : Nat) (h : k < s.size) : s.data.toList.drop k = s[k] :: s.data.toList.drop (k + 1) := by
  rw [List.drop_eq_getElem_cons (by simpa using h)]; rfl
set_option maxHeartbeats 400000 in
theorem l2Unquote_not (s : ByteArray) (w : World) (hs : s.size ≤ 2002) (h : ¬ (2 ≤ s.data.toList.length ∧ s.data.toList.head? = some 34 ∧ plainL s.data.toList = true)) :
    Calls Tryz.prog 161 #[.string s] w fun e w' => e = .returned (.tuple #[.string ⟨#[]⟩, .bool false]) ∧ Below w.heap.size w w' := by
  by_cases h1 : s.size < 2
  · have g1 : (s.size : Int) < 2 := by omega
    clear h
    go_enter Tryz.func161, Tryz.ntmps161
    go_wp2
    go_ret2
    exact ⟨rfl, Below.refl _ _⟩
  · have g1 : ¬ (s.size : Int) < 2 := by omega
    have h0 : 0 < s.size := by omega
    have g0 : (0 : Int) < s.size := by omega
    have eh : s.data.toList.head? = some s[0] := by
      have := drop_at s 0 h0
      rw [List.drop_zero] at this
      rw [this]; rfl
    by_cases h2 : (s[0].toNat : Int) = 34
    · have g2 : ((s[0].toNat : Int) != 34) = false := by simpa using h2
      have h3 : plainL s.data.toList = false := by
        cases hp : plainL s.data.toList
        · rfl
        · refine absurd ⟨by simpa using (by omega : 2 ≤ s.size), ?_, hp⟩ h
          rw [eh]
          exact congrArg some (UInt8.toNat_inj.1 (by simpa using (by omega : s[0].toNat = 34)))
      have HP : Hid (plainL s.data.toList = false) := h3
      clear h3 h eh h2
      go_enter Tryz.func161, Tryz.ntmps161
      go_wp2_with fail
      refine (plainText_any s _ (by omega)).mono ?_
      rintro e w1 ⟨rfl, rfl⟩
      rw [HP.out]
      go_wp2
      go_ret2
      exact ⟨rfl, Below.refl _ _⟩
    · have g2 : ((s[0].toNat : Int) != 34) = true := by simpa using h2
      clear h eh h2
      go_enter Tryz.func161, Tryz.ntmps161
      go_wp2
      go_ret2
      exact ⟨rfl, Below.refl _ _⟩
set_option maxHeartbeats 2000000 in
theorem l2Unquote_yes (s : ByteArray) (w : World) (hs : s.size ≤ 2002) (h1 : 2 ≤ s.data.toList.length) (h2 : s.data.toList.head? = some 34) (h3 : plainL s.data.toList = true) :
    Calls Tryz.prog 161 #[.string s] w fun e w' => e = .returned (.tuple #[.string (unqS s), .bool (unqB s)]) ∧ Below w.heap.size w w' := by
  have hn : 2 ≤ s.size := by simpa using h1
  have g1 : ¬ (s.size : Int) < 2 := by omega
  have h0 : 0 < s.size := by omega
  have g0 : (0 : Int) < s.size := by omega
  have g2 : ((s[0].toNat : Int) != 34) = false := by
    have := drop_at s 0 h0
    rw [List.drop_zero] at this
    rw [this] at h2
    simp only [List.head?_cons, Option.some.injEq] at h2
    rw [h2]; decide
  have HT : Hid (unqT s.data.toList = unq [] (s.data.toList.drop 1)) := unqT_go h1 h2 h3
  have HP : Hid (plainL s.data.toList = true) := h3
  clear h1 h2 h3
  go_enter Tryz.func161, Tryz.ntmps161
  go_wp2_with fail
  refine (plainText_any s _ (by omega)).mono ?_
  rintro e w1 ⟨rfl, rfl⟩
  rw [HP.out]
  clear HP
  go_wp2
  go_loopw [4, 5] (fun v i wr => ∃ (k : Nat) (acc : List UInt8), k ≤ s.size ∧ acc.length ≤ k ∧ i = .int .i64 k ∧ OwnB wr w1.heap.size v acc ∧ unqT s.data.toList = unq acc (s.data.toList.drop k) ∧ Below w1.heap.size w1 wr) (fun _ i _ => s.size - (intOf i).toNat)
  case atStart => exact ⟨1, [], by omega, by simp, rfl, OwnB.made w1 w1.heap.size (Nat.le_refl _) [] (by decide), HT.out, (Below.refl _ _).alloc (Nat.le_refl _) _⟩
  case round =>
    obtain ⟨k, acc, hk, ha, rfl, hown, hq, hb⟩ := hrel
    have HO : Hid (OwnB wr w1.heap.size u4 acc) := hown
    have HQ : Hid (unqT s.data.toList = unq acc (s.data.toList.drop k)) := hq
    have hz := hb.size
    clear hown hq HT
    by_cases hlt : k < s.size
    · have HD : Hid (s.data.toList.drop k = s[k] :: s.data.toList.drop (k + 1)) := drop_at s k hlt
      by_cases c1 : (s[k].toNat : Int) = 34
      · have HE : Hid ((⟨acc.toArray⟩ : ByteArray) = unqS s ∧ decide (s.data.toList.drop (k + 1) = []) = unqB s) := by
          have := HQ.out
          rw [HD.out, unq_end _ _ _ c1] at this
          exact unq_of this
        have e1 : ((s[k].toNat : Int) == 34) = true := by simpa using c1
        have hcv := HO.out.text
        by_cases hl : k + 1 = s.size
        · have e2 : ((k : Int) == (s.size : Int) - 1) = true := by simp; omega
          have HF : Hid (unqB s = true) := by
            show _ = _
            rw [← HE.out.2]; simp; omega
          have HG : Hid ((⟨acc.toArray⟩ : ByteArray) = unqS s) := HE.out.1
          clear HE HQ HD c1
          generalize (⟨acc.toArray⟩ : ByteArray) = r at *
          go_wp2_with fail
          go_ret2
          exact ⟨ret_two HG.out HF.out.symm, hb⟩
        · have e2 : ((k : Int) == (s.size : Int) - 1) = false := by simp; omega
          have HF : Hid (unqB s = false) := by
            show _ = _
            rw [← HE.out.2]; simp; omega
          have HG : Hid ((⟨acc.toArray⟩ : ByteArray) = unqS s) := HE.out.1
          clear HE HQ HD c1
          generalize (⟨acc.toArray⟩ : ByteArray) = r at *
          go_wp2_with fail
          go_ret2
          exact ⟨ret_two HG.out HF.out.symm, hb⟩
      · have e1 : ((s[k].toNat : Int) == 34) = false := by simpa using c1
        by_cases c2 : (s[k].toNat : Int) = 92
        · have e2 : ((s[k].toNat : Int) == 92) = true := by simpa using c2
          by_cases hl : k + 1 = s.size
          · have e3 : ((k : Int) + 1 == (s.size : Int)) = true := by simp; omega
            have HE : Hid ((⟨#[]⟩ : ByteArray) = unqS s ∧ false = unqB s) := by
              have := HQ.out
              rw [HD.out, show s.data.toList.drop (k + 1) = [] from List.drop_of_length_le (by simp; omega), unq_cut _ _ c2] at this
              exact unq_of this
            clear HQ HD c1 c2
            go_wp2_with fail
            go_ret2
            exact ⟨ret_two HE.out.1 HE.out.2, hb⟩
          · have e3 : ((k : Int) + 1 == (s.size : Int)) = false := by simp; omega
            have hlt2 : k + 1 < s.size := by omega
            have HE : Hid (unqT s.data.toList = unq (acc ++ [s[k + 1]]) (s.data.toList.drop (k + 2))) := by
              show _ = _
              rw [HQ.out, HD.out, drop_at s (k + 1) hlt2, unq_esc _ _ _ _ c2]
            clear HQ HD c1 c2
            go_wp2_with (at_builtin; refine wpList_append_byte _ rfl (.tmp 49) (.tmp 53) rfl w1.heap.size _ acc _ s[k + 1] rfl rfl HO.out rfl (by omega) hz ?_; intro v2 w2 HO2 hb2 hz2)
            go_roundw
            case rel => exact ⟨k + 2, acc ++ [s[k + 1]], by omega, by simp; omega, by go_num, HO2, HE.out, hb.trans hb2⟩
            case measure => simp [intOf]; omega
        · have e2 : ((s[k].toNat : Int) == 92) = false := by simpa using c2
          have HE : Hid (unqT s.data.toList = unq (acc ++ [s[k]]) (s.data.toList.drop (k + 1))) := by
            show _ = _
            rw [HQ.out, HD.out, unq_take _ _ _ c1 c2]
          clear HQ HD c1 c2
          go_wp2_with (at_builtin; refine wpList_append_byte _ rfl (.tmp 49) (.tmp 53) rfl w1.heap.size _ acc _ s[k] rfl rfl HO.out rfl (by omega) hz ?_; intro v2 w2 HO2 hb2 hz2)
          go_roundw
          case rel => exact ⟨k + 1, acc ++ [s[k]], by omega, by simp; omega, by go_num, HO2, HE.out, hb.trans hb2⟩
          case measure => simp [intOf]; omega
    · have HE : Hid ((⟨#[]⟩ : ByteArray) = unqS s ∧ false = unqB s) := by
        have := HQ.out
        rw [show s.data.toList.drop k = [] from List.drop_of_length_le (by simp; omega)] at this
        exact unq_of this
      clear HQ
      go_wp2_with fail
      go_ret2
      exact ⟨ret_two HE.out.1 HE.out.2, hb⟩
theorem l2Unquote_any (s : ByteArray) (w : World) (hs : s.size ≤ 2002) :
    Calls Tryz.prog 161 #[.string s] w fun e w' => e = .returned (.tuple #[.string (unqS s), .bool (unqB s)]) ∧ Below w.heap.size w w' := by
  by_cases h : 2 ≤ s.data.toList.length ∧ s.data.toList.head? = some 34 ∧ plainL s.data.toList = true
  · exact l2Unquote_yes s w hs h.1 h.2.1 h.2.2
  · have e := unq_of (unqT_no h)
    have := l2Unquote_not s w hs h
    rw [← e.1, ← e.2]
    exact this
end Go.Proofs.YtgfbahjpaaanoaaGreatDoor
/-
  A slice of bytes that the call itself grows, from nil on; where what a quote begins ends.
-/
namespace Go.Proofs.YtgfbahjpaaanoaaGreatDoor
open Go.ChangeShapes Go.WideShapes Go.ChangeAt Go.RowKit
theorem size_list (s : ByteArray) : s.data.toList.length = s.size := by simp
/-- v, nil or not, holds the bytes l in a row of the call's own. -/
def OwnR (w : World) (base : Nat) (v : Value) (l : List UInt8) : Prop := w.ownsRow base 5 1 v l.length (bytesW l)
theorem OwnR.text {w : World} {base : Nat} {v : Value} {l : List UInt8} (h : OwnR w base v l) :
    (convert 22 9 v).run Tryz.prog w = .ok (.string ⟨l.toArray⟩) w := by
  by_cases hn : v = .slice none 0 0
  · obtain ⟨_, h2 | ⟨g, c, cur, e, _⟩⟩ := h
    · have : l = [] := List.eq_nil_of_length_eq_zero h2.2
      subst this hn
      rw [run_convert_bytes_string w 22 9 5 none 0 0 Tryz.underlying22 Tryz.underlying5 Tryz.underlying9]
      rfl
    · rw [hn] at e; cases e
  · exact OwnB.text ⟨h, hn⟩
theorem OwnR.nil (w : World) (base : Nat) : OwnR w base (.slice none 0 0) [] := World.ownsRow_nil _ _ _ _
theorem wpList_append_byteR {ops : Array Oper} {rest : List Oper} {o : Oper} {a : Act} {Q : Exit → Act → World → Prop} (w : World) (hgd : o.guard = none) (s x : Operand)
    (ho : o.op = .call { callee := .builtin .append, args := #[s, x], argTypes := #[22, 22] }) (base : Nat) (v : Value) (l : List UInt8) (z : Int) (c : UInt8)
    (hs : a.eval s = v) (hx : a.eval x = .slice (some ⟨w.heap.size, 0, none⟩) 1 1) (hown : OwnR w base v l) (hc : (c.toNat : Int) = z) (hl : l.length ≤ 1000000) (hbase : base ≤ w.heap.size)
    (h : ∀ v' w', OwnR w' base v' (l ++ [c]) → Below base w w' → w.heap.size ≤ w'.heap.size → wpList Tryz.prog ops Q rest (a.put o.dst v') w') :
    wpList Tryz.prog ops Q (o :: rest) a (w.alloc (.cells #[.int .u8 z] 5)) := by
  obtain ⟨i0, hi, hz0, hz1, hz2⟩ := info_parts infoByteB
  refine wpList_append_own _ hgd s x 22 ho base 5 i0 (.int .u8 0) 1 1 Tryz.underlying22 hi hz0 hz1 hz2 rfl (by decide) v l.length (bytesW l) hs (World.ownsRow.alloc hown _) ⟨w.heap.size, 0, none⟩ 1 1 [.int .u8 z] hx rfl ?_ ?_ ?_ ?_ ?_ ?_
  · intro j u hj
    match j, hj with
    | 0, hj => simp at hj; subst hj; simp [Addr.add]
  · intro u hu; simp at hu; subst hu; rfl
  · unfold maxLen; omega
  · omega
  · simp; omega
  · intro v' w' h1 h2 h3
    have e : bytesW (l ++ [c]) = bytesW l ++ [Value.int .u8 z] := by simp [bytesW, hc]
    refine h v' w' (by unfold OwnR; rw [e, List.length_append]; exact h1) ?_ ?_
    · exact ((Below.refl base w).alloc hbase _).grown h2 (by simp; omega) (fun q hq => own_geB hown q hq)
    · have hb := ((Below.refl 0 w).alloc (Nat.zero_le _) (.cells #[.int .u8 z] 5)).grown h2 (Nat.zero_le _) (fun q _ => Nat.zero_le _)
      exact hb.size
/-- How many bytes stand ahead of the quote that ends; all of them where none does. -/
def qLen : List UInt8 → Nat
  | [] => 0
  | [c] => if (c.toNat : Int) = 34 then 0 else 1
  | c :: d :: r => if (c.toNat : Int) = 34 then 0 else if (c.toNat : Int) = 92 then 2 + qLen r else 1 + qLen (d :: r)
theorem qLen_end (c : UInt8) (r : List UInt8) (h : (c.toNat : Int) = 34) : qLen (c :: r) = 0 := by
  cases r with
  | nil => simp only [qLen, if_pos h]
  | cons d r => simp only [qLen, if_pos h]
theorem qLen_cut (c : UInt8) (h : (c.toNat : Int) = 92) : qLen [c] = 1 := by simp only [qLen]; rw [if_neg (by omega)]
theorem qLen_esc (c d : UInt8) (r : List UInt8) (h : (c.toNat : Int) = 92) : qLen (c :: d :: r) = 2 + qLen r := by
  simp only [qLen]; rw [if_neg (by omega), if_pos h]
theorem qLen_take (c : UInt8) (r : List UInt8) (h1 : ¬ (c.toNat : Int) = 34) (h2 : ¬ (c.toNat : Int) = 92) : qLen (c :: r) = 1 + qLen r := by
  cases r with
  | nil => simp only [qLen, if_neg h1]
  | cons d r => simp only [qLen, if_neg h1, if_neg h2]
theorem qLen_le : ∀ l : List UInt8, qLen l ≤ l.length
  | [] => by simp [qLen]
  | [c] => by simp only [qLen]; split <;> simp
  | c :: d :: r => by
    have h1 := qLen_le r
    have h2 := qLen_le (d :: r)
    simp only [qLen, List.length_cons] at h2 ⊢
    split
    · omega
    · split <;> omega
theorem unq_ends : ∀ (acc l : List UInt8), (unq acc l).2 = decide (qLen l + 1 = l.length)
  | acc, [] => by simp [unq]
  | acc, [c] => by simp only [unq, qLen]; split <;> simp
  | acc, c :: d :: r => by
    have h1 := unq_ends (acc ++ [d]) r
    have h2 := unq_ends (acc ++ [c]) (d :: r)
    simp only [unq, qLen]
    split
    · simp
    · split
      · rw [h1]; simp only [List.length_cons]; exact decide_eq_decide.2 (by omega)
      · rw [h2]; simp only [List.length_cons]; exact decide_eq_decide.2 (by omega)
/-- Where the quote that stands at b is ended. -/
def qEnd (l : List UInt8) (b : Nat) : Nat := b + 1 + qLen (l.drop (b + 1))
theorem unqB_ends (s : ByteArray) : unqB s = (decide (s.data.toList.head? = some 34) && decide (qEnd s.data.toList 0 + 1 = s.size) && plainL s.data.toList) := by
  have hz : s.size = s.data.toList.length := by simp
  rw [hz]
  unfold unqB unqT qEnd
  generalize s.data.toList = l
  cases l with
  | nil => simp
  | cons c t =>
    by_cases h : 2 ≤ (c :: t).length ∧ (c :: t).head? = some 34 ∧ plainL (c :: t) = true
    · rw [if_pos h, unq_ends, h.2.1, h.2.2]
      simp only [List.tail_cons, Bool.and_true, decide_true, Bool.true_and, Nat.zero_add, List.drop_succ_cons, List.drop_zero, List.length_cons]
      exact decide_eq_decide.2 (by omega)
    · rw [if_neg h]
      by_cases a : (c :: t).head? = some 34 ∧ plainL (c :: t) = true
      · have : ¬ 2 ≤ (c :: t).length := fun x => h ⟨x, a⟩
        have ht : t = [] := List.eq_nil_of_length_eq_zero (by simp only [List.length_cons] at this; omega)
        subst ht
        simp [qLen]
      · symm
        simp only [Bool.and_eq_false_iff, decide_eq_false_iff_not]
        by_cases b1 : (c :: t).head? = some 34
        · right; cases hp : plainL (c :: t)
          · rfl
          · exact absurd ⟨b1, hp⟩ a
        · left; left; exact b1
end Go.Proofs.YtgfbahjpaaanoaaGreatDoor
/-
  A text cut at commas that do not stand between quotes, plainly.
-/
namespace Go.Proofs.YtgfbahjpaaanoaaGreatDoor
/-- The pieces; cur: what stands already in the one that is under way. -/
def pcs (ins : Bool) (cur : List UInt8) : List UInt8 → List (List UInt8)
  | [] => [cur]
  | [c] => if ins = true ∧ (c.toNat : Int) = 92 then [cur ++ [c]] else if (c.toNat : Int) = 34 then [cur ++ [c]] else if (c.toNat : Int) = 44 ∧ ins = false then [cur, []] else [cur ++ [c]]
  | c :: d :: r => if ins = true ∧ (c.toNat : Int) = 92 then pcs ins (cur ++ [c, d]) r else if (c.toNat : Int) = 34 then pcs (!ins) (cur ++ [c]) (d :: r) else if (c.toNat : Int) = 44 ∧ ins = false then cur :: pcs ins [] (d :: r) else pcs ins (cur ++ [c]) (d :: r)
theorem pcs_cut {cur : List UInt8} {c : UInt8} (h : (c.toNat : Int) = 92) : pcs true cur [c] = [cur ++ [c]] := by simp only [pcs]; rw [if_pos ⟨trivial, h⟩]
theorem pcs_esc {cur r : List UInt8} {c d : UInt8} (h : (c.toNat : Int) = 92) : pcs true cur (c :: d :: r) = pcs true (cur ++ [c, d]) r := by simp only [pcs]; rw [if_pos ⟨trivial, h⟩]
theorem pcs_quote {ins : Bool} {cur r : List UInt8} {c : UInt8} (h : (c.toNat : Int) = 34) : pcs ins cur (c :: r) = pcs (!ins) (cur ++ [c]) r := by
  have n : ¬ (ins = true ∧ (c.toNat : Int) = 92) := by omega
  cases r with
  | nil => simp only [pcs]; rw [if_neg n, if_pos h]
  | cons d r => simp only [pcs]; rw [if_neg n, if_pos h]
theorem pcs_comma {cur r : List UInt8} {c : UInt8} (h : (c.toNat : Int) = 44) : pcs false cur (c :: r) = cur :: pcs false [] r := by
  have n : ¬ (false = true ∧ (c.toNat : Int) = 92) := by omega
  have n2 : ¬ (c.toNat : Int) = 34 := by omega
  cases r with
  | nil => simp only [pcs]; rw [if_neg n, if_neg n2, if_pos ⟨h, trivial⟩]
  | cons d r => simp only [pcs]; rw [if_neg n, if_neg n2, if_pos ⟨h, trivial⟩]
theorem pcs_take {ins : Bool} {cur r : List UInt8} {c : UInt8} (h1 : ¬ (ins = true ∧ (c.toNat : Int) = 92)) (h2 : ¬ (c.toNat : Int) = 34) (h3 : ¬ ((c.toNat : Int) = 44 ∧ ins = false)) : pcs ins cur (c :: r) = pcs ins (cur ++ [c]) r := by
  cases r with
  | nil => simp only [pcs]; rw [if_neg h1, if_neg h2, if_neg h3]
  | cons d r => simp only [pcs]; rw [if_neg h1, if_neg h2, if_neg h3]
/-- How many bytes stand in the piece that is under way. -/
def peS (ins : Bool) : List UInt8 → Nat
  | [] => 0
  | [c] => if (c.toNat : Int) = 44 ∧ ins = false then 0 else 1
  | c :: d :: r => if ins = true ∧ (c.toNat : Int) = 92 then 2 + peS ins r else if (c.toNat : Int) = 34 then 1 + peS (!ins) (d :: r) else if (c.toNat : Int) = 44 ∧ ins = false then 0 else 1 + peS ins (d :: r)
theorem peS_cut {c : UInt8} : peS true [c] = 1 := by simp only [peS]; rw [if_neg (by simp)]
theorem peS_esc {r : List UInt8} {c d : UInt8} (h : (c.toNat : Int) = 92) : peS true (c :: d :: r) = 2 + peS true r := by simp only [peS]; rw [if_pos ⟨trivial, h⟩]
theorem peS_quote {ins : Bool} {r : List UInt8} {c : UInt8} (h : (c.toNat : Int) = 34) : peS ins (c :: r) = 1 + peS (!ins) r := by
  have n : ¬ (ins = true ∧ (c.toNat : Int) = 92) := by omega
  cases r with
  | nil => simp only [peS]; rw [if_neg (by omega)]
  | cons d r => simp only [peS]; rw [if_neg n, if_pos h]
theorem peS_comma {r : List UInt8} {c : UInt8} (h : (c.toNat : Int) = 44) : peS false (c :: r) = 0 := by
  have n : ¬ (false = true ∧ (c.toNat : Int) = 92) := by omega
  have n2 : ¬ (c.toNat : Int) = 34 := by omega
  cases r with
  | nil => simp only [peS]; rw [if_pos ⟨h, trivial⟩]
  | cons d r => simp only [peS]; rw [if_neg n, if_neg n2, if_pos ⟨h, trivial⟩]
theorem peS_take {ins : Bool} {r : List UInt8} {c : UInt8} (h1 : ¬ (ins = true ∧ (c.toNat : Int) = 92)) (h2 : ¬ (c.toNat : Int) = 34) (h3 : ¬ ((c.toNat : Int) = 44 ∧ ins = false)) : peS ins (c :: r) = 1 + peS ins r := by
  cases r with
  | nil => simp only [peS]; rw [if_neg h3]
  | cons d r => simp only [peS]; rw [if_neg h1, if_neg h2, if_neg h3]
theorem peS_le (n : Nat) : ∀ (l : List UInt8) (ins : Bool), l.length ≤ n → peS ins l ≤ l.length := by
  induction n with
  | zero => intro l ins h; have : l = [] := List.eq_nil_of_length_eq_zero (by omega); subst this; simp [peS]
  | succ n ih =>
    intro l ins h
    match l with
    | [] => simp [peS]
    | [c] => simp only [peS]; split <;> simp
    | c :: d :: r =>
      have h1 := ih r ins (by simp only [List.length_cons] at h; omega)
      have h2 := ih (d :: r) ins (by simp only [List.length_cons] at h ⊢; omega)
      have h3 := ih (d :: r) (!ins) (by simp only [List.length_cons] at h ⊢; omega)
      simp only [peS, List.length_cons] at h2 h3 ⊢
      repeat' split
      all_goals omega
/-- The first piece, and the others. -/
theorem pcs_first (n : Nat) : ∀ (l : List UInt8) (ins : Bool) (cur : List UInt8), l.length ≤ n →
    pcs ins cur l = if peS ins l < l.length then (cur ++ l.take (peS ins l)) :: pcs false [] (l.drop (peS ins l + 1)) else [cur ++ l] := by
  induction n with
  | zero => intro l ins cur h; have : l = [] := List.eq_nil_of_length_eq_zero (by omega); subst this; simp [peS, pcs]
  | succ n ih =>
    intro l ins cur h
    match l with
    | [] => simp [peS, pcs]
    | c :: r =>
      have hr : r.length ≤ n := by simp only [List.length_cons] at h; omega
      by_cases c0 : ins = true ∧ (c.toNat : Int) = 92
      · obtain ⟨rfl, c0⟩ := c0
        match r with
        | [] => rw [pcs_cut c0, peS_cut]; simp
        | d :: r =>
          rw [pcs_esc c0, peS_esc c0, ih r true _ (by simp only [List.length_cons] at hr; omega)]
          by_cases q : peS true r < r.length
          · rw [if_pos q, if_pos (by simp only [List.length_cons]; omega)]
            rw [show 2 + peS true r = peS true r + 1 + 1 from by omega]
            simp
          · rw [if_neg q, if_neg (by simp only [List.length_cons]; omega)]
            simp
      · by_cases c1 : (c.toNat : Int) = 34
        · rw [pcs_quote c1, peS_quote c1, ih r _ _ hr]
          by_cases q : peS (!ins) r < r.length
          · rw [if_pos q, if_pos (by simp only [List.length_cons]; omega)]
            rw [show 1 + peS (!ins) r = peS (!ins) r + 1 from by omega]
            simp
          · rw [if_neg q, if_neg (by simp only [List.length_cons]; omega)]
            simp
        · by_cases c2 : (c.toNat : Int) = 44 ∧ ins = false
          · obtain ⟨c2, rfl⟩ := c2
            rw [pcs_comma c2, peS_comma c2, if_pos (by simp)]
            simp
          · rw [pcs_take c0 c1 c2, peS_take c0 c1 c2, ih r _ _ hr]
            by_cases q : peS ins r < r.length
            · rw [if_pos q, if_pos (by simp only [List.length_cons]; omega)]
              rw [show 1 + peS ins r = peS ins r + 1 from by omega]
              simp
            · rw [if_neg q, if_neg (by simp only [List.length_cons]; omega)]
              simp
/-- From behind a quote to the end of the piece. -/
theorem peS_in (n : Nat) : ∀ (l : List UInt8), l.length ≤ n → peS true l = if qLen l < l.length then qLen l + 1 + peS false (l.drop (qLen l + 1)) else l.length := by
  induction n with
  | zero => intro l h; have : l = [] := List.eq_nil_of_length_eq_zero (by omega); subst this; simp [peS, qLen]
  | succ n ih =>
    intro l h
    match l with
    | [] => simp [peS, qLen]
    | c :: r =>
      have hr : r.length ≤ n := by simp only [List.length_cons] at h; omega
      by_cases c1 : (c.toNat : Int) = 34
      · rw [peS_quote c1, qLen_end _ _ c1, if_pos (by simp)]
        simp
      · by_cases c0 : (c.toNat : Int) = 92
        · match r with
          | [] => rw [peS_cut, qLen_cut _ c0]; simp
          | d :: r =>
            rw [peS_esc c0, qLen_esc _ _ _ c0, ih r (by simp only [List.length_cons] at hr; omega)]
            by_cases q : qLen r < r.length
            · rw [if_pos q, if_pos (by simp only [List.length_cons]; omega)]
              rw [show 2 + qLen r + 1 = qLen r + 1 + 1 + 1 from by omega]
              simp only [List.drop_succ_cons]
              omega
            · rw [if_neg q, if_neg (by simp only [List.length_cons]; omega)]
              simp only [List.length_cons]; omega
        · rw [peS_take (fun x => c0 x.2) c1 (by simp), qLen_take _ _ c1 c0, ih r hr]
          by_cases q : qLen r < r.length
          · rw [if_pos q, if_pos (by simp only [List.length_cons]; omega)]
            rw [show 1 + qLen r + 1 = qLen r + 1 + 1 from by omega]
            simp only [List.drop_succ_cons]
            omega
          · rw [if_neg q, if_neg (by simp only [List.length_cons]; omega)]
            simp only [List.length_cons]; omega
end Go.Proofs.YtgfbahjpaaanoaaGreatDoor
/-
  What the model's l2Pieces answers.
-/
namespace Go.Proofs.YtgfbahjpaaanoaaGreatDoor
open Go.ChangeShapes Go.WideShapes Go.ChangeAt Go.RowKit
def mkB (p : List UInt8) : ByteArray := ⟨p.toArray⟩
/-- The texts lie in block g from 0 on. -/
def TextsAt (w : World) (g : Nat) (l : List ByteArray) : Prop := ∀ (i : Nat) x, l[i]? = some x → w.cell? ⟨g, i, none⟩ = some (.string x)
theorem TextsAt.keep {w w' : World} {g : Nat} {l : List ByteArray} (h : TextsAt w g l) (hb : Below w.heap.size w w') : TextsAt w' g l := by
  intro i x hx
  have c := h i x hx
  rw [hb.cell (block_lt_of_cell c)]; exact c
theorem OwnS.at {w : World} {base : Nat} {v : Value} {l : List ByteArray} (h : OwnS w base v l) (hl : l ≠ []) : ∃ g c, v = .slice (some ⟨g, 0, none⟩) l.length c ∧ TextsAt w g l := by
  have h0 := h
  obtain ⟨_, h1 | ⟨g, c, cur, rfl, _⟩⟩ := h
  · exact absurd (List.eq_nil_of_length_eq_zero h1.2) hl
  · refine ⟨g, c, rfl, fun i x hx => ?_⟩
    have := World.ownsRow.cellAt h0 i (by have := (List.getElem?_eq_some_iff.1 hx).1; omega)
    rw [this]
    simp [textsW, hx]
theorem OwnS.texts {w : World} {base g n c : Nat} {l : List ByteArray} (h : OwnS w base (.slice (some ⟨g, 0, none⟩) n c) l) : TextsAt w g l := by
  have h0 := h
  obtain ⟨_, h1 | ⟨g', c', cur, e, _⟩⟩ := h
  · exact absurd h1.1 (by simp)
  · intro i x hx
    have hi := (List.getElem?_eq_some_iff.1 hx).1
    simp only [Value.slice.injEq, Option.some.injEq, Addr.mk.injEq, and_true] at e
    obtain ⟨rfl, rfl, rfl⟩ := e
    have := World.ownsRow.cellAt h0 i (by omega)
    rw [this]
    simp [textsW, hx]
theorem ext_list (s : ByteArray) (i j : Nat) : (s.extract i j).data.toList = (s.data.toList.drop i).take (j - i) := by
  rw [ByteArray.data_extract, Array.toList_extract, List.extract_eq_take_drop]
theorem ext_mk (s : ByteArray) (i j : Nat) : s.extract i j = mkB ((s.data.toList.drop i).take (j - i)) := by
  unfold mkB
  rw [← ext_list]
theorem cur_snoc (s : ByteArray) (f k : Nat) (hf : f ≤ k) (hk : k < s.size) : (s.data.toList.drop f).take (k + 1 - f) = (s.data.toList.drop f).take (k - f) ++ [s[k]] := by
  have hz := size_list s
  rw [show k + 1 - f = (k - f) + 1 from by omega, List.take_add_one, List.getElem?_drop, show f + (k - f) = k from by omega, List.getElem?_eq_getElem (by omega)]
  rfl
theorem cur_all (s : ByteArray) (f k : Nat) (hk : s.size ≤ k) : (s.data.toList.drop f).take (k - f) = s.data.toList.drop f := by
  have hz := size_list s
  exact List.take_of_length_le (by rw [List.length_drop]; omega)
theorem pcs_ne (l : List UInt8) (ins : Bool) (cur : List UInt8) : pcs ins cur l ≠ [] := by
  rw [pcs_first l.length l ins cur (Nat.le_refl _)]
  split <;> simp
/-- Where the walk stands: O are the pieces that are cut; the one under way began at f. -/
def PcAt (s : ByteArray) (O : List (List UInt8)) (ins : Bool) (f k : Nat) : Prop :=
  (k ≤ s.size ∧ f ≤ k ∧ pcs false [] s.data.toList = O ++ pcs ins ((s.data.toList.drop f).take (k - f)) (s.data.toList.drop k)) ∨ (k = s.size + 1 ∧ f ≤ s.size ∧ pcs false [] s.data.toList = O ++ [s.data.toList.drop f])
theorem PcAt.lt {s : ByteArray} {O : List (List UInt8)} {ins : Bool} {f k : Nat} (h : PcAt s O ins f k) (hk : k < s.size) : f ≤ k ∧ pcs false [] s.data.toList = O ++ pcs ins ((s.data.toList.drop f).take (k - f)) (s[k] :: s.data.toList.drop (k + 1)) := by
  rcases h with h | h
  · exact ⟨h.2.1, by rw [h.2.2, drop_at s k hk]⟩
  · omega
theorem PcAt.done {s : ByteArray} {O : List (List UInt8)} {ins : Bool} {f k : Nat} (h : PcAt s O ins f k) (hk : ¬ k < s.size) : f ≤ s.size ∧ pcs false [] s.data.toList = O ++ [s.data.toList.drop f] := by
  have hz := size_list s
  rcases h with h | h
  · refine ⟨by omega, ?_⟩
    rw [h.2.2, List.drop_of_length_le (i := k) (by omega), cur_all s f k (by omega)]
    rfl
  · exact h.2
theorem PcAt.esc {s : ByteArray} {O : List (List UInt8)} {f k : Nat} (h : PcAt s O true f k) (hk : k < s.size) (hc : (s[k].toNat : Int) = 92) : PcAt s O true f (k + 2) := by
  obtain ⟨hf, h⟩ := h.lt hk
  by_cases hl : k + 1 = s.size
  · right
    refine ⟨by omega, by omega, ?_⟩
    have hz := size_list s
    rw [h, List.drop_of_length_le (i := k + 1) (by omega), pcs_cut hc, ← cur_snoc s f k hf hk, cur_all s f (k + 1) (by omega)]
  · left
    refine ⟨by omega, by omega, ?_⟩
    rw [h, drop_at s (k + 1) (by omega), pcs_esc hc, cur_snoc s f (k + 1) (by omega) (by omega), cur_snoc s f k hf hk]
    simp
theorem PcAt.quote {s : ByteArray} {O : List (List UInt8)} {ins : Bool} {f k : Nat} (h : PcAt s O ins f k) (hk : k < s.size) (hc : (s[k].toNat : Int) = 34) : PcAt s O (!ins) f (k + 1) := by
  obtain ⟨hf, h⟩ := h.lt hk
  exact .inl ⟨by omega, by omega, by rw [h, pcs_quote hc, cur_snoc s f k hf hk]⟩
theorem PcAt.comma {s : ByteArray} {O : List (List UInt8)} {f k : Nat} (h : PcAt s O false f k) (hk : k < s.size) (hc : (s[k].toNat : Int) = 44) : PcAt s (O ++ [(s.data.toList.drop f).take (k - f)]) false (k + 1) (k + 1) := by
  obtain ⟨hf, h⟩ := h.lt hk
  exact .inl ⟨by omega, by omega, by rw [h, pcs_comma hc]; simp⟩
theorem PcAt.on {s : ByteArray} {O : List (List UInt8)} {ins : Bool} {f k : Nat} (h : PcAt s O ins f k) (hk : k < s.size) (h1 : ¬ (ins = true ∧ (s[k].toNat : Int) = 92)) (h2 : ¬ (s[k].toNat : Int) = 34) (h3 : ¬ ((s[k].toNat : Int) = 44 ∧ ins = false)) : PcAt s O ins f (k + 1) := by
  obtain ⟨hf, h⟩ := h.lt hk
  exact .inl ⟨by omega, by omega, by rw [h, pcs_take h1 h2 h3, cur_snoc s f k hf hk]⟩
theorem OwnS.made0 (w : World) (base : Nat) (hb : base ≤ w.heap.size) : OwnS (w.alloc (.cells #[] 9)) base (.slice (some ⟨w.heap.size, 0, none⟩) 0 0) [] := World.ownsRow_made w #[] 0 hb (by unfold maxLen; omega) rfl
end Go.Proofs.YtgfbahjpaaanoaaGreatDoor
/-
  What the model's l2Pieces answers: the walk.
-/
namespace Go.Proofs.YtgfbahjpaaanoaaGreatDoor
open Go.ChangeShapes Go.WideShapes Go.ChangeAt Go.RowKit
def PcsRes (s : ByteArray) (base : Nat) (e : Ending) (w : World) : Prop := ∃ g c, e = .returned (.slice (some ⟨g, 0, none⟩) (pcs false [] s.data.toList).length c) ∧ OwnS w base (.slice (some ⟨g, 0, none⟩) (pcs false [] s.data.toList).length c) ((pcs false [] s.data.toList).map mkB)
theorem PcsRes.mk {s : ByteArray} {base : Nat} {w : World} {v : Value} {L : List ByteArray} (h : (pcs false [] s.data.toList).map mkB = L) (ho : OwnS w base v L) (hn : L ≠ []) : PcsRes s base (.returned v) w := by
  obtain ⟨g, c, e, _⟩ := ho.at hn
  have hl : L.length = (pcs false [] s.data.toList).length := by rw [← h, List.length_map]
  rw [hl] at e
  exact ⟨g, c, by rw [e], by rw [h, ← e]; exact ho⟩
theorem mk_snoc (O : List (List UInt8)) (p : List UInt8) : (O ++ [p]).map mkB = O.map mkB ++ [mkB p] := by simp
set_option maxRecDepth 100000 in
set_option maxHeartbeats 8000000 in
theorem pieces_any (s : ByteArray) (w : World) (hs : s.size ≤ 1000) :
    Calls Tryz.prog 143 #[.string s] w fun e w' => PcsRes s w.heap.size e w' ∧ Below w.heap.size w w' := by
  go_enter Tryz.func143, Tryz.ntmps143
  go_wp2_with fail
  go_loopw [3, 4, 5, 6] (fun v fv iv kv wr => ∃ (k f : Nat) (ins : Bool) (O : List (List UInt8)), kv = .int .i64 k ∧ fv = .int .i64 f ∧ iv = .bool ins ∧ O.length ≤ k ∧ OwnS wr w.heap.size v (O.map mkB) ∧ PcAt s O ins f k ∧ Below w.heap.size w wr) (fun _ _ _ kv _ => s.size + 1 - (intOf kv).toNat)
  case atStart => exact ⟨0, 0, false, [], rfl, rfl, rfl, Nat.zero_le _, OwnS.made0 w w.heap.size (Nat.le_refl _), .inl ⟨Nat.zero_le _, Nat.zero_le _, rfl⟩, (Below.refl _ _).alloc (Nat.le_refl _) _⟩
  case round =>
    obtain ⟨k, f, ins, O, rfl, rfl, rfl, hO, hown, hpc, hb⟩ := hrel
    have HO : Hid (OwnS wr w.heap.size u3 (O.map mkB)) := hown
    have HP : Hid (PcAt s O ins f k) := hpc
    have hz := hb.size
    clear hown hpc
    by_cases hlt : k < s.size
    · have hfk := (HP.out.lt hlt).1
      have g : (k : Int) < s.size := by omega
      by_cases c0 : ins = true ∧ (s[k].toNat : Int) = 92
      · obtain ⟨rfl, c0⟩ := c0
        have HQ : Hid (PcAt s O true f (k + 2)) := HP.out.esc hlt c0
        have e0 : ((s[k].toNat : Int) == 92) = true := by simpa using c0
        clear HP c0
        go_wp2_with fail
        go_roundw
        case rel => exact ⟨k + 2, f, true, O, by go_num, rfl, rfl, by omega, HO.out, HQ.out, hb⟩
        case measure => simp [intOf]; omega
      · by_cases c1 : (s[k].toNat : Int) = 34
        · have HQ : Hid (PcAt s O (!ins) f (k + 1)) := HP.out.quote hlt c1
          have e1 : ((s[k].toNat : Int) == 34) = true := by simpa using c1
          have e0 : ((s[k].toNat : Int) == 92) = false := by simp; omega
          clear HP c0 c1
          cases ins
          · go_wp2_with fail
            go_roundw
            case rel => exact ⟨k + 1, f, true, O, by go_num, rfl, rfl, by omega, HO.out, HQ.out, hb⟩
            case measure => simp [intOf]; omega
          · go_wp2_with fail
            go_roundw
            case rel => exact ⟨k + 1, f, false, O, by go_num, rfl, rfl, by omega, HO.out, HQ.out, hb⟩
            case measure => simp [intOf]; omega
        · have e1 : ((s[k].toNat : Int) == 34) = false := by simpa using c1
          by_cases c2 : (s[k].toNat : Int) = 44 ∧ ins = false
          · obtain ⟨c2, rfl⟩ := c2
            have HQ : Hid (PcAt s (O ++ [(s.data.toList.drop f).take (k - f)]) false (k + 1) (k + 1)) := HP.out.comma hlt c2
            have HX : Hid (s.extract f k = mkB ((s.data.toList.drop f).take (k - f))) := ext_mk s f k
            have HM := mk_snoc O ((s.data.toList.drop f).take (k - f))
            have e2 : ((s[k].toNat : Int) == 44) = true := by simpa using c2
            have hOl : (O.map mkB).length ≤ 1000 := by rw [List.length_map]; omega
            have gf0 : (0 : Int) ≤ f := by omega
            have gf : (f : Int) ≤ k := by omega
            have gk : (k : Int) ≤ s.size := by omega
            clear HP c0 c1 c2
            generalize (s.data.toList.drop f).take (k - f) = pc at *
            generalize O.map mkB = L at *
            go_wp2_with (at_builtin; refine wpList_append_str _ rfl (.tmp 40) (.tmp 45) rfl w.heap.size _ L (s.extract f k) rfl rfl HO.out (by omega) hz ?_; intro v2 w2 HO2 hb2 hz2)
            go_roundw
            case rel => exact ⟨k + 1, k + 1, false, O ++ [pc], by go_num, by go_num, rfl, by simp; omega, by rw [HM, ← HX.out]; exact HO2, HQ.out, hb.trans hb2⟩
            case measure => simp [intOf]; omega
          · have HQ : Hid (PcAt s O ins f (k + 1)) := HP.out.on hlt c0 c1 c2
            cases ins
            · have e2 : ((s[k].toNat : Int) == 44) = false := by
                have n2 : ¬ (s[k].toNat : Int) = 44 := fun h => c2 ⟨h, rfl⟩
                simpa using n2
              clear HP c0 c1 c2
              go_wp2_with fail
              go_roundw
              case rel => exact ⟨k + 1, f, false, O, by go_num, rfl, rfl, by omega, HO.out, HQ.out, hb⟩
              case measure => simp [intOf]; omega
            · have e0 : ((s[k].toNat : Int) == 92) = false := by
                have n2 : ¬ (s[k].toNat : Int) = 92 := fun h => c0 ⟨rfl, h⟩
                simpa using n2
              clear HP c0 c1 c2
              by_cases c3 : (s[k].toNat : Int) = 44
              · have e2 : ((s[k].toNat : Int) == 44) = true := by simpa using c3
                go_wp2_with fail
                go_roundw
                case rel => exact ⟨k + 1, f, true, O, by go_num, rfl, rfl, by omega, HO.out, HQ.out, hb⟩
                case measure => simp [intOf]; omega
              · have e2 : ((s[k].toNat : Int) == 44) = false := by simpa using c3
                go_wp2_with fail
                go_roundw
                case rel => exact ⟨k + 1, f, true, O, by go_num, rfl, rfl, by omega, HO.out, HQ.out, hb⟩
                case measure => simp [intOf]; omega
    · obtain ⟨hf, hd⟩ := HP.out.done hlt
      have HX : Hid (s.extract f s.size = mkB (s.data.toList.drop f)) := by
        show _ = _
        rw [ext_mk, cur_all s f s.size (Nat.le_refl _)]
      have hkm : k ≤ 1001 := by rcases HP.out with h | h <;> omega
      have HM : Hid ((pcs false [] s.data.toList).map mkB = O.map mkB ++ [mkB (s.data.toList.drop f)]) := by
        show _ = _
        rw [hd, mk_snoc]
      have hOl : (O.map mkB).length ≤ 1001 := by rw [List.length_map]; omega
      have gf0 : (0 : Int) ≤ f := by omega
      have gf : (f : Int) ≤ s.size := by omega
      have g : ¬ (k : Int) < s.size := by omega
      clear HP hd
      generalize s.data.toList.drop f = pc at *
      generalize O.map mkB = L at *
      go_wp2_with (at_builtin; refine wpList_append_str _ rfl (.tmp 49) (.tmp 53) rfl w.heap.size _ L (s.extract f s.size) rfl rfl HO.out (by omega) hz ?_; intro v2 w2 HO2 hb2 hz2)
      go_ret
      rw [HX.out] at HO2
      exact ⟨PcsRes.mk HM.out HO2 (by simp), hb.trans hb2⟩
end Go.Proofs.YtgfbahjpaaanoaaGreatDoor
/-
  Lists of items in memory; the laws' own helpers over them.
-/
namespace Go.Proofs.YtgfbahjpaaanoaaGreatDoor
open Go.ChangeShapes Go.WideShapes Go.ChangeAt Go.RowKit
/-- An item: its name, whether it has a value, the value. -/
structure Rec where
  name : ByteArray
  has : Bool
  value : ByteArray
/-- The items l lie in block b from off on, three cells each. -/
def ItemsAt (w : World) (b off : Nat) (l : List Rec) : Prop :=
  ∀ (i : Nat) r, l[i]? = some r → w.cell? ⟨b, off + i * 3, none⟩ = some (.string r.name) ∧ w.cell? ⟨b, off + i * 3 + 1, none⟩ = some (.bool r.has) ∧ w.cell? ⟨b, off + i * 3 + 2, none⟩ = some (.string r.value)
def recV (r : Rec) : Value := .agg #[.string r.name, .bool r.has, .string r.value]
def szR (left : Int) (r : Rec) : Int := if left - (r.name.size : Int) < 0 then -1 else if left - (r.name.size : Int) - (r.value.size : Int) < 0 then -1 else left - (r.name.size : Int) - (r.value.size : Int)
/-- How much room is left behind the items; -1: none. -/
def szRs (left : Int) : List Rec → Int
  | [] => left
  | r :: l => if szR left r < 0 then -1 else szRs (szR left r) l
def szL (left : Int) (l : List Rec) : Int := if left - (l.length : Int) < 0 then -1 else szRs (left - (l.length : Int)) l
def SmallRecs (l : List Rec) : Prop := ∀ (i : Nat) r, l[i]? = some r → r.name.size ≤ maxLen ∧ r.value.size ≤ maxLen
theorem ItemsAt.keep {w w' : World} {b off : Nat} {l : List Rec} (h : ItemsAt w b off l) (hb : Below w.heap.size w w') : ItemsAt w' b off l := by
  intro i r hr
  obtain ⟨a1, a2, a3⟩ := h i r hr
  exact ⟨by rw [hb.cell (block_lt_of_cell a1)]; exact a1, by rw [hb.cell (block_lt_of_cell a2)]; exact a2, by rw [hb.cell (block_lt_of_cell a3)]; exact a3⟩
theorem szR_le (left : Int) (r : Rec) : szR left r ≤ left ∨ szR left r = -1 := by
  unfold szR
  split
  · exact .inr rfl
  · split
    · exact .inr rfl
    · left; omega
theorem drop_rec (l : List Rec) (k : Nat) (r : Rec) (h : l[k]? = some r) : l.drop k = r :: l.drop (k + 1) := by
  obtain ⟨hk, rfl⟩ := List.getElem?_eq_some_iff.1 h
  exact List.drop_eq_getElem_cons hk
end Go.Proofs.YtgfbahjpaaanoaaGreatDoor
/-
  An item of a trimmed piece, plainly; the items of pieces.
-/
namespace Go.Proofs.YtgfbahjpaaanoaaGreatDoor
/-- How many bytes stand ahead of the first '='; all of them where there is none. -/
def eqAt : List UInt8 → Nat
  | [] => 0
  | c :: r => if (c.toNat : Int) = 61 then 0 else 1 + eqAt r
theorem eqAt_le : ∀ l : List UInt8, eqAt l ≤ l.length
  | [] => by simp [eqAt]
  | c :: r => by
    have := eqAt_le r
    simp only [eqAt, List.length_cons]
    split <;> omega
/-- An item of a trimmed piece; none: it is none. -/
def readR (s : ByteArray) : Option Rec :=
  if wordS (s.extract 0 (eqAt s.data.toList)) = false then none
  else if eqAt s.data.toList = s.size then some ⟨s, false, ⟨#[]⟩⟩
  else if wordS (s.extract (eqAt s.data.toList + 1) s.size) = true then some ⟨s.extract 0 (eqAt s.data.toList), true, s.extract (eqAt s.data.toList + 1) s.size⟩
  else if unqB (s.extract (eqAt s.data.toList + 1) s.size) = true then some ⟨s.extract 0 (eqAt s.data.toList), true, unqS (s.extract (eqAt s.data.toList + 1) s.size)⟩
  else none
theorem read_noname {s : ByteArray} (h : wordS (s.extract 0 (eqAt s.data.toList)) = false) : readR s = none := by unfold readR; rw [if_pos h]
theorem read_bare {s : ByteArray} (h : wordS (s.extract 0 (eqAt s.data.toList)) = true) (h2 : eqAt s.data.toList = s.size) : readR s = some ⟨s, false, ⟨#[]⟩⟩ := by unfold readR; rw [if_neg (by rw [h]; decide), if_pos h2]
theorem read_word {s : ByteArray} (h : wordS (s.extract 0 (eqAt s.data.toList)) = true) (h2 : eqAt s.data.toList ≠ s.size) (h3 : wordS (s.extract (eqAt s.data.toList + 1) s.size) = true) : readR s = some ⟨s.extract 0 (eqAt s.data.toList), true, s.extract (eqAt s.data.toList + 1) s.size⟩ := by
  unfold readR; rw [if_neg (by rw [h]; decide), if_neg h2, if_pos h3]
theorem read_quote {s : ByteArray} (h : wordS (s.extract 0 (eqAt s.data.toList)) = true) (h2 : eqAt s.data.toList ≠ s.size) (h3 : wordS (s.extract (eqAt s.data.toList + 1) s.size) = false) (h4 : unqB (s.extract (eqAt s.data.toList + 1) s.size) = true) : readR s = some ⟨s.extract 0 (eqAt s.data.toList), true, unqS (s.extract (eqAt s.data.toList + 1) s.size)⟩ := by
  unfold readR; rw [if_neg (by rw [h]; decide), if_neg h2, if_neg (by rw [h3]; decide), if_pos h4]
theorem read_bad {s : ByteArray} (h : wordS (s.extract 0 (eqAt s.data.toList)) = true) (h2 : eqAt s.data.toList ≠ s.size) (h3 : wordS (s.extract (eqAt s.data.toList + 1) s.size) = false) (h4 : unqB (s.extract (eqAt s.data.toList + 1) s.size) = false) : readR s = none := by
  unfold readR; rw [if_neg (by rw [h]; decide), if_neg h2, if_neg (by rw [h3]; decide), if_neg (by rw [h4]; decide)]
/-- The items of pieces; none: one of them is none. -/
def readP : List (List UInt8) → Option (List Rec)
  | [] => some []
  | p :: ps => if (trimT (mkB p)).size = 0 then readP ps else
    match readR (trimT (mkB p)) with
    | none => none
    | some r => (readP ps).map (r :: ·)
theorem readP_skip {p : List UInt8} {ps : List (List UInt8)} (h : (trimT (mkB p)).size = 0) : readP (p :: ps) = readP ps := by rw [readP, if_pos h]
theorem readP_bad {p : List UInt8} {ps : List (List UInt8)} (h : (trimT (mkB p)).size ≠ 0) (hr : readR (trimT (mkB p)) = none) : readP (p :: ps) = none := by rw [readP, if_neg h, hr]
theorem readP_take {p : List UInt8} {ps : List (List UInt8)} {r : Rec} (h : (trimT (mkB p)).size ≠ 0) (hr : readR (trimT (mkB p)) = some r) : readP (p :: ps) = (readP ps).map (r :: ·) := by rw [readP, if_neg h, hr]
/-- The items of a text, and its code. -/
def parseC (s : ByteArray) : Int := if 1000 < s.size then 2 else match readP (pcs false [] s.data.toList) with
  | none => 5
  | some L => if 20 < L.length then 2 else 0
def parseL (s : ByteArray) : List Rec := if 1000 < s.size then [] else match readP (pcs false [] s.data.toList) with
  | none => []
  | some L => if 20 < L.length then [] else L
theorem parse_long {s : ByteArray} (h : 1000 < s.size) : parseC s = 2 ∧ parseL s = [] := by unfold parseC parseL; rw [if_pos h, if_pos h]; exact ⟨rfl, rfl⟩
theorem parse_bad {s : ByteArray} (h : ¬ 1000 < s.size) (hr : readP (pcs false [] s.data.toList) = none) : parseC s = 5 ∧ parseL s = [] := by unfold parseC parseL; rw [if_neg h, if_neg h, hr]; exact ⟨rfl, rfl⟩
theorem parse_many {s : ByteArray} {L : List Rec} (h : ¬ 1000 < s.size) (hr : readP (pcs false [] s.data.toList) = some L) (hL : 20 < L.length) : parseC s = 2 ∧ parseL s = [] := by
  unfold parseC parseL; rw [if_neg h, if_neg h, hr]; exact ⟨by simp only [if_pos hL], by simp only [if_pos hL]⟩
theorem parse_ok {s : ByteArray} {L : List Rec} (h : ¬ 1000 < s.size) (hr : readP (pcs false [] s.data.toList) = some L) (hL : ¬ 20 < L.length) : parseC s = 0 ∧ parseL s = L := by
  unfold parseC parseL; rw [if_neg h, if_neg h, hr]; exact ⟨by simp only [if_neg hL], by simp only [if_neg hL]⟩
end Go.Proofs.YtgfbahjpaaanoaaGreatDoor
/-
  What the model's l2Item answers.
-/
namespace Go.Proofs.YtgfbahjpaaanoaaGreatDoor
open Go.ChangeShapes Go.WideShapes Go.ChangeAt Go.RowKit
/-- An item and whether it is one. -/
def ItemRes (s : ByteArray) (e : Ending) : Prop := ∃ (r : Rec) (b : Bool), e = .returned (.tuple #[.agg #[.string r.name, .bool r.has, .string r.value], .bool b]) ∧ (b = true → readR s = some r) ∧ (b = false → readR s = none)
theorem ItemRes.no {s : ByteArray} (n : ByteArray) (h : Bool) (v : ByteArray) (hr : readR s = none) : ItemRes s (.returned (.tuple #[.agg #[.string n, .bool h, .string v], .bool false])) := ⟨⟨n, h, v⟩, false, rfl, (fun h => by cases h), fun _ => hr⟩
theorem ItemRes.yes {s : ByteArray} {n : ByteArray} {h : Bool} {v : ByteArray} (hr : readR s = some ⟨n, h, v⟩) : ItemRes s (.returned (.tuple #[.agg #[.string n, .bool h, .string v], .bool true])) := ⟨⟨n, h, v⟩, true, rfl, fun _ => hr, (fun h => by cases h)⟩
theorem eqAt_stop (s : ByteArray) (k : Nat) (hk : k < s.size) (hc : (s[k].toNat : Int) = 61) : eqAt (s.data.toList.drop k) = 0 := by rw [drop_at s k hk, eqAt, if_pos hc]
theorem eqAt_on (s : ByteArray) (k : Nat) (hk : k < s.size) (hc : ¬ (s[k].toNat : Int) = 61) : eqAt (s.data.toList.drop k) = 1 + eqAt (s.data.toList.drop (k + 1)) := by rw [drop_at s k hk, eqAt, if_neg hc]
theorem eqAt_end (s : ByteArray) (k : Nat) (hk : ¬ k < s.size) : eqAt (s.data.toList.drop k) = 0 := by rw [List.drop_of_length_le (by have := size_list s; omega)]; rfl
/-- A struct stored whole. -/
theorem three_set {w : World} {B : Nat} {u0 u1 u2 v0 v1 v2 : Value} (p0 : w.cell? ⟨B, 0, none⟩ = some u0) (p1 : w.cell? ⟨B, 1, none⟩ = some u1) (p2 : w.cell? ⟨B, 2, none⟩ = some u2) :
    (((w.setCell ⟨B, 0, none⟩ v0).setCell ⟨B, 1, none⟩ v1).setCell ⟨B, 2, none⟩ v2).cell? ⟨B, 0, none⟩ = some v0 ∧ (((w.setCell ⟨B, 0, none⟩ v0).setCell ⟨B, 1, none⟩ v1).setCell ⟨B, 2, none⟩ v2).cell? ⟨B, 1, none⟩ = some v1 ∧ (((w.setCell ⟨B, 0, none⟩ v0).setCell ⟨B, 1, none⟩ v1).setCell ⟨B, 2, none⟩ v2).cell? ⟨B, 2, none⟩ = some v2 := by
  have n01 : (⟨B, 0, none⟩ : Addr) ≠ ⟨B, 1, none⟩ := fun h => by have := congrArg Addr.off h; simp at this
  have n02 : (⟨B, 0, none⟩ : Addr) ≠ ⟨B, 2, none⟩ := fun h => by have := congrArg Addr.off h; simp at this
  have n12 : (⟨B, 1, none⟩ : Addr) ≠ ⟨B, 2, none⟩ := fun h => by have := congrArg Addr.off h; simp at this
  refine ⟨?_, ?_, ?_⟩
  · rw [World.cell?_setCell_other _ _ _ _ n02.symm, World.cell?_setCell_other _ _ _ _ n01.symm, World.cell?_setCell_same _ _ _ p0]
  · rw [World.cell?_setCell_other _ _ _ _ n12.symm]
    refine World.cell?_setCell_same _ _ _ (u := u1) ?_
    rw [World.cell?_setCell_other _ _ _ _ n01, p1]
  · refine World.cell?_setCell_same _ _ _ (u := u2) ?_
    rw [World.cell?_setCell_other _ _ _ _ n12, World.cell?_setCell_other _ _ _ _ n02, p2]
theorem two_items {w w1 : World} {n v : ByteArray} {t : TypeId} (hb : Below (w.heap.size + 1 + 1) ((w.alloc (.cells #[.string ⟨#[]⟩, .bool false, .string ⟨#[]⟩] t)).alloc (.cells #[.string n, .bool true, .string v] t)) w1) :
    w.heap.size + 1 < w1.heap.size ∧ w1.cell? ⟨w.heap.size, 0, none⟩ = some (.string ⟨#[]⟩) ∧ w1.cell? ⟨w.heap.size, 1, none⟩ = some (.bool false) ∧ w1.cell? ⟨w.heap.size, 2, none⟩ = some (.string ⟨#[]⟩) ∧
    w1.frozen? ⟨w.heap.size, 0, none⟩ = false ∧ w1.frozen? ⟨w.heap.size, 1, none⟩ = false ∧ w1.frozen? ⟨w.heap.size, 2, none⟩ = false ∧
    w1.cell? ⟨w.heap.size + 1, 0, none⟩ = some (.string n) ∧ w1.cell? ⟨w.heap.size + 1, 1, none⟩ = some (.bool true) ∧ w1.cell? ⟨w.heap.size + 1, 2, none⟩ = some (.string v) ∧ w1.frozen? ⟨w.heap.size + 1, 2, none⟩ = false ∧ Below w.heap.size w w1 := by
  have hz := hb.size
  simp only [World.size_alloc] at hz
  have l0 : w.heap.size < w.heap.size + 1 + 1 := by omega
  have l1 : w.heap.size + 1 < w.heap.size + 1 + 1 := by omega
  have k1 : Below w.heap.size w (w.alloc (.cells #[.string ⟨#[]⟩, .bool false, .string ⟨#[]⟩] t)) := (Below.refl _ _).alloc (Nat.le_refl _) _
  have e := World.size_alloc w (.cells #[.string ⟨#[]⟩, .bool false, .string ⟨#[]⟩] t)
  refine ⟨by omega, ?_, ?_, ?_, ?_, ?_, ?_, ?_, ?_, ?_, ?_, (k1.alloc (by rw [e]; omega) _).trans (hb.mono (by omega))⟩
  · rw [hb.cell (p := ⟨w.heap.size, 0, none⟩) l0]; simp
  · rw [hb.cell (p := ⟨w.heap.size, 1, none⟩) l0]; simp
  · rw [hb.cell (p := ⟨w.heap.size, 2, none⟩) l0]; simp
  · rw [hb.frozen (p := ⟨w.heap.size, 0, none⟩) l0]; simp
  · rw [hb.frozen (p := ⟨w.heap.size, 1, none⟩) l0]; simp
  · rw [hb.frozen (p := ⟨w.heap.size, 2, none⟩) l0]; simp
  · rw [hb.cell (p := ⟨w.heap.size + 1, 0, none⟩) l1, ← e]; simp
  · rw [hb.cell (p := ⟨w.heap.size + 1, 1, none⟩) l1, ← e]; simp
  · rw [hb.cell (p := ⟨w.heap.size + 1, 2, none⟩) l1, ← e]; simp
  · rw [hb.frozen (p := ⟨w.heap.size + 1, 2, none⟩) l1, ← e]; simp
theorem item_put {w : World} {B C : Nat} {a0 a1 a2 b0 b1 b2 v : Value} (hn : B ≠ C) (c0 : w.cell? ⟨B, 0, none⟩ = some a0) (c1 : w.cell? ⟨B, 1, none⟩ = some a1) (c2 : w.cell? ⟨B, 2, none⟩ = some a2)
    (f0 : w.frozen? ⟨B, 0, none⟩ = false) (f1 : w.frozen? ⟨B, 1, none⟩ = false) (f2 : w.frozen? ⟨B, 2, none⟩ = false) (d0 : w.cell? ⟨C, 0, none⟩ = some b0) (d1 : w.cell? ⟨C, 1, none⟩ = some b1) (d2 : w.cell? ⟨C, 2, none⟩ = some b2) :
    (w.setCell ⟨C, 2, none⟩ v).cell? ⟨C, 0, none⟩ = some b0 ∧ (w.setCell ⟨C, 2, none⟩ v).cell? ⟨C, 1, none⟩ = some b1 ∧ (w.setCell ⟨C, 2, none⟩ v).cell? ⟨C, 2, none⟩ = some v ∧
    (w.setCell ⟨C, 2, none⟩ v).cell? ⟨B, 0, none⟩ = some a0 ∧ (w.setCell ⟨C, 2, none⟩ v).cell? ⟨B, 1, none⟩ = some a1 ∧ (w.setCell ⟨C, 2, none⟩ v).cell? ⟨B, 2, none⟩ = some a2 ∧
    (w.setCell ⟨C, 2, none⟩ v).frozen? ⟨B, 0, none⟩ = false ∧ (w.setCell ⟨C, 2, none⟩ v).frozen? ⟨B, 1, none⟩ = false ∧ (w.setCell ⟨C, 2, none⟩ v).frozen? ⟨B, 2, none⟩ = false := by
  have nb : ∀ i j, (⟨C, i, none⟩ : Addr) ≠ ⟨B, j, none⟩ := fun i j h => hn (congrArg Addr.block h).symm
  have n0 : (⟨C, 2, none⟩ : Addr) ≠ ⟨C, 0, none⟩ := fun h => by have := congrArg Addr.off h; simp at this
  have n1 : (⟨C, 2, none⟩ : Addr) ≠ ⟨C, 1, none⟩ := fun h => by have := congrArg Addr.off h; simp at this
  refine ⟨?_, ?_, World.cell?_setCell_same _ _ _ d2, ?_, ?_, ?_, ?_, ?_, ?_⟩
  · rw [World.cell?_setCell_other _ _ _ _ n0, d0]
  · rw [World.cell?_setCell_other _ _ _ _ n1, d1]
  · rw [World.cell?_setCell_other _ _ _ _ (nb 2 0), c0]
  · rw [World.cell?_setCell_other _ _ _ _ (nb 2 1), c1]
  · rw [World.cell?_setCell_other _ _ _ _ (nb 2 2), c2]
  · rw [World.frozen?_setCell]; exact f0
  · rw [World.frozen?_setCell]; exact f1
  · rw [World.frozen?_setCell]; exact f2
set_option maxRecDepth 100000 in
set_option maxHeartbeats 4000000 in
theorem l2Item_any (s : ByteArray) (w : World) (hs : s.size ≤ 1000) :
    Calls Tryz.prog 144 #[.string s] w fun e w' => ItemRes s e ∧ Below w.heap.size w w' := by
  go_enter Tryz.func144, Tryz.ntmps144
  go_wp2_with fail
  go_loop [4] (fun i => ∃ k : Nat, k ≤ s.size ∧ i = .int .i64 k ∧ eqAt s.data.toList = k + eqAt (s.data.toList.drop k)) (fun i => s.size - (intOf i).toNat)
  case atStart => exact ⟨0, Nat.zero_le _, rfl, by simp⟩
  case round =>
    obtain ⟨k, hk, rfl, he⟩ := hrel
    have HE : Hid (eqAt s.data.toList = k + eqAt (s.data.toList.drop k)) := he
    clear he
    by_cases hgo : k < s.size ∧ ¬ ∃ h : k < s.size, (s[k].toNat : Int) = 61
    · obtain ⟨hlt, hc⟩ := hgo
      have hc2 : ¬ (s[k].toNat : Int) = 61 := fun h => hc ⟨hlt, h⟩
      have HX : Hid (eqAt s.data.toList = (k + 1) + eqAt (s.data.toList.drop (k + 1))) := by
        show _ = _
        rw [HE.out, eqAt_on s k hlt hc2]; omega
      have e1 : ((s[k].toNat : Int) != 61) = true := by simpa using hc2
      have g : (k : Int) < s.size := by omega
      clear HE hc hc2
      go_wp2_with fail
      go_round
      case rel => exact ⟨k + 1, by omega, by go_num, HX.out⟩
      case measure => simp [intOf]; omega
    · have HK : Hid (eqAt s.data.toList = k) := by
        show _ = _
        rw [HE.out]
        by_cases hlt : k < s.size
        · by_cases hc : (s[k].toNat : Int) = 61
          · rw [eqAt_stop s k hlt hc]; omega
          · exact absurd ⟨hlt, fun ⟨_, h⟩ => hc h⟩ hgo
        · rw [eqAt_end s k hlt]; omega
      have R1 := @read_noname s
      have R2 := @read_bare s
      have R3 := @read_word s
      have R4 := @read_quote s
      have R5 := @read_bad s
      rw [HK.out] at R1 R2 R3 R4 R5
      have g1 : (0 : Int) ≤ k := by omega
      have g2 : (k : Int) ≤ s.size := by omega
      have hxz : (s.extract (k + 1) s.size).size ≤ 1000 := by simp; omega
      have HStop : Hid (k < s.size → ∃ h : k < s.size, (s[k].toNat : Int) = 61) := fun h => by
        by_cases hc : (s[k].toNat : Int) = 61
        · exact ⟨h, hc⟩
        · exact absurd ⟨h, fun ⟨_, h⟩ => hc h⟩ hgo
      clear hgo HE
      generalize hnm : s.extract 0 k = nm at *
      have HNM : Hid (s.extract 0 k = nm) := hnm
      clear hnm
      by_cases hlt : k < s.size
      · obtain ⟨_, hc⟩ := HStop.out hlt
        have e1 : ((s[k].toNat : Int) != 61) = false := by simpa using hc
        have e2 : ((k : Int) == (s.size : Int)) = false := by simp; omega
        have g3 : (k : Int) < s.size := by omega
        have hks : k ≠ s.size := by omega
        generalize hrs : s.extract (k + 1) s.size = rs at *
        have HRS : Hid (s.extract (k + 1) s.size = rs) := hrs
        clear hrs HStop hc HK R2
        cases hw : wordS nm
        · have HR : Hid (readR s = none) := R1 hw
          have HW : Hid (wordS nm = false) := hw
          clear R1 R3 R4 R5 hw
          go_wp2_with fail
          rw [HNM.out]
          refine (specIsWord_any nm _).mono ?_
          rintro e w1 ⟨rfl, rfl⟩
          rw [HW.out]
          go_wp2_with fail
          exact bodyPost_ret (v := .tuple #[.agg #[.string ⟨#[]⟩, .bool false, .string ⟨#[]⟩], .bool false]) (by simp [results, Tryz.results144, go_sem]) rfl ⟨ItemRes.no _ _ _ HR.out, (Below.refl _ _).alloc (Nat.le_refl _) _⟩
        · have HW : Hid (wordS nm = true) := hw
          cases hv : wordS rs
          · have HV : Hid (wordS rs = false) := hv
            have HU : Hid ((unqB rs = true → readR s = some ⟨nm, true, unqS rs⟩) ∧ (unqB rs = false → readR s = none)) := ⟨R4 hw hks hv, R5 hw hks hv⟩
            clear R1 R3 R4 R5 hw hv
            go_wp2_with fail
            rw [HNM.out]
            refine (specIsWord_any nm _).mono ?_
            rintro e w1 ⟨rfl, rfl⟩
            rw [HW.out]
            go_wp2_with fail
            rw [HNM.out, HRS.out]
            refine (specIsWord_any rs _).mono ?_
            rintro e w1 ⟨rfl, rfl⟩
            rw [HV.out]
            go_wp2_with fail
            refine (l2Unquote_any rs _ (by omega)).mono ?_
            rintro e w1 ⟨rfl, hb1⟩
            simp only [World.size_alloc] at hb1
            obtain ⟨hz1, c0, c1, c2, f0, f1, f2, d0, d1, d2, d3, kb⟩ := two_items hb1
            cases hub : unqB rs
            · have HR : Hid (readR s = none) := HU.out.2 hub
              clear HU hub hb1
              generalize unqS rs = uv at *
              obtain ⟨x0, x1, x2, y0, y1, y2, z0, z1, z2⟩ := item_put (v := .string uv) (by omega : w.heap.size ≠ w.heap.size + 1) c0 c1 c2 f0 f1 f2 d0 d1 d2
              obtain ⟨r0, r1, r2⟩ := three_set (v0 := .string nm) (v1 := .bool true) (v2 := .string uv) y0 y1 y2
              go_wp2_with fail
              exact bodyPost_ret (v := .tuple #[.agg #[.string nm, .bool true, .string uv], .bool false]) (by simp [results, Tryz.results144, go_sem, r0, r1, r2]) rfl ⟨ItemRes.no _ _ _ HR.out, (((kb.setCell (by simp) _).setCell (Nat.le_refl _) _).setCell (Nat.le_refl _) _).setCell (Nat.le_refl _) _⟩
            · have HR : Hid (readR s = some ⟨nm, true, unqS rs⟩) := HU.out.1 hub
              clear HU hub hb1
              generalize unqS rs = uv at *
              obtain ⟨x0, x1, x2, y0, y1, y2, z0, z1, z2⟩ := item_put (v := .string uv) (by omega : w.heap.size ≠ w.heap.size + 1) c0 c1 c2 f0 f1 f2 d0 d1 d2
              obtain ⟨r0, r1, r2⟩ := three_set (v0 := .string nm) (v1 := .bool true) (v2 := .string uv) y0 y1 y2
              go_wp2_with fail
              exact bodyPost_ret (v := .tuple #[.agg #[.string nm, .bool true, .string uv], .bool true]) (by simp [results, Tryz.results144, go_sem, r0, r1, r2]) rfl ⟨ItemRes.yes HR.out, (((kb.setCell (by simp) _).setCell (Nat.le_refl _) _).setCell (Nat.le_refl _) _).setCell (Nat.le_refl _) _⟩
          · have HV : Hid (wordS rs = true) := hv
            have HR : Hid (readR s = some ⟨nm, true, rs⟩) := R3 hw hks hv
            clear R1 R3 R4 R5 hw hv
            go_wp2_with fail
            rw [HNM.out]
            refine (specIsWord_any nm _).mono ?_
            rintro e w1 ⟨rfl, rfl⟩
            rw [HW.out]
            go_wp2_with fail
            rw [HNM.out, HRS.out]
            refine (specIsWord_any rs _).mono ?_
            rintro e w1 ⟨rfl, rfl⟩
            rw [HV.out]
            go_wp2_with fail
            exact bodyPost_ret (v := .tuple #[.agg #[.string nm, .bool true, .string rs], .bool true]) (by simp [results, Tryz.results144, go_sem]) rfl ⟨ItemRes.yes HR.out, ((Below.refl _ _).alloc (Nat.le_refl _) _).alloc (by simp) _⟩
      · have hks : k = s.size := by omega
        have g3 : ¬ (k : Int) < s.size := by omega
        have e2 : ((k : Int) == (s.size : Int)) = true := by simp; omega
        obtain rfl : s = nm := by
          rw [← HNM.out, hks]
          exact ByteArray.extract_zero_size.symm
        clear HStop HK R3 R4 R5 HNM
        cases hw : wordS s
        · have HR : Hid (readR s = none) := R1 hw
          have HW : Hid (wordS s = false) := hw
          clear R1 R2 hw
          go_wp2_with fail
          refine (specIsWord_any s _).mono ?_
          rintro e w1 ⟨rfl, rfl⟩
          rw [HW.out]
          go_wp2_with fail
          exact bodyPost_ret (v := .tuple #[.agg #[.string ⟨#[]⟩, .bool false, .string ⟨#[]⟩], .bool false]) (by simp [results, Tryz.results144, go_sem]) rfl ⟨ItemRes.no _ _ _ HR.out, (Below.refl _ _).alloc (Nat.le_refl _) _⟩
        · have HR : Hid (readR s = some ⟨s, false, ⟨#[]⟩⟩) := R2 hw hks
          have HW : Hid (wordS s = true) := hw
          clear R1 R2 hw
          go_wp2_with fail
          refine (specIsWord_any s _).mono ?_
          rintro e w1 ⟨rfl, rfl⟩
          rw [HW.out]
          go_wp2_with fail
          exact bodyPost_ret (v := .tuple #[.agg #[.string s, .bool false, .string ⟨#[]⟩], .bool true]) (by simp [results, Tryz.results144, go_sem]) rfl ⟨ItemRes.yes HR.out, (Below.refl _ _).alloc (Nat.le_refl _) _⟩
end Go.Proofs.YtgfbahjpaaanoaaGreatDoor
/-
  The laws' copy of a list of items, and their comparing of two.
-/
namespace Go.Proofs.YtgfbahjpaaanoaaGreatDoor
open Go.ChangeShapes Go.WideShapes Go.ChangeAt Go.RowKit Go.Sort
/-- m cells from the head of block G on are there and may be written. -/
def Room (w : World) (G m : Nat) : Prop := ∀ j, j < m → (∃ u, w.cell? ⟨G, j, none⟩ = some u) ∧ w.frozen? ⟨G, j, none⟩ = false
theorem Room.keep {w w' : World} {G m : Nat} (h : Room w G m) (hb : Below w.heap.size w w') : Room w' G m := by
  intro j hj
  obtain ⟨⟨u, hu⟩, hf⟩ := h j hj
  exact ⟨⟨u, by rw [hb.cell (block_lt_of_cell hu)]; exact hu⟩, by rw [hb.frozen (block_lt_of_cell hu)]; exact hf⟩
theorem Room.set {w : World} {G m : Nat} (h : Room w G m) (a : Addr) (v : Value) : Room (w.setCell a v) G m := by
  intro j hj
  obtain ⟨⟨u, hu⟩, hf⟩ := h j hj
  refine ⟨?_, by rw [World.frozen?_setCell]; exact hf⟩
  by_cases e : a = ⟨G, j, none⟩
  · exact ⟨v, by subst e; exact World.cell?_setCell_same _ _ _ hu⟩
  · exact ⟨u, by rw [World.cell?_setCell_other _ _ _ _ e]; exact hu⟩
def put3 (w : World) (G k : Nat) (r : Rec) : World := ((w.setCell ⟨G, k * 3, none⟩ (.string r.name)).setCell ⟨G, k * 3 + 1, none⟩ (.bool r.has)).setCell ⟨G, k * 3 + 2, none⟩ (.string r.value)
theorem off_ne {G i j : Nat} (h : i ≠ j) : (⟨G, i, none⟩ : Addr) ≠ ⟨G, j, none⟩ := fun e => h (congrArg Addr.off e)
theorem put3_other (w : World) (G k : Nat) (r : Rec) (j : Nat) (h0 : k * 3 ≠ j) (h1 : k * 3 + 1 ≠ j) (h2 : k * 3 + 2 ≠ j) : (put3 w G k r).cell? ⟨G, j, none⟩ = w.cell? ⟨G, j, none⟩ := by
  unfold put3
  rw [World.cell?_setCell_other _ _ _ _ (off_ne h2), World.cell?_setCell_other _ _ _ _ (off_ne h1), World.cell?_setCell_other _ _ _ _ (off_ne h0)]
theorem Room.put {w : World} {G m : Nat} (h : Room w G m) (k : Nat) (r : Rec) : Room (put3 w G k r) G m := ((h.set _ _).set _ _).set _ _
theorem ItemsAt.put {w : World} {G n : Nat} {l : List Rec} {k : Nat} {r : Rec} (h : ItemsAt w G 0 (l.take k)) (hr : l[k]? = some r) (hm : Room w G (n * 3)) (hk : k < n) : ItemsAt (put3 w G k r) G 0 (l.take (k + 1)) := by
  intro i q hq
  have hi : i < k + 1 := by
    have := (List.getElem?_eq_some_iff.1 hq).1
    simp at this; omega
  rw [List.getElem?_take_of_lt hi] at hq
  simp only [Nat.zero_add]
  by_cases e : i = k
  · subst e
    rw [hr] at hq
    obtain rfl := Option.some.inj hq
    obtain ⟨⟨u0, g0⟩, _⟩ := hm (i * 3) (by omega)
    obtain ⟨⟨u1, g1⟩, _⟩ := (hm.set ⟨G, i * 3, none⟩ (.string r.name)) (i * 3 + 1) (by omega)
    obtain ⟨⟨u2, g2⟩, _⟩ := ((hm.set ⟨G, i * 3, none⟩ (.string r.name)).set ⟨G, i * 3 + 1, none⟩ (.bool r.has)) (i * 3 + 2) (by omega)
    unfold put3
    refine ⟨?_, ?_, World.cell?_setCell_same _ _ _ g2⟩
    · rw [World.cell?_setCell_other _ _ _ _ (off_ne (by omega)), World.cell?_setCell_other _ _ _ _ (off_ne (by omega))]
      exact World.cell?_setCell_same _ _ _ g0
    · rw [World.cell?_setCell_other _ _ _ _ (off_ne (by omega))]
      exact World.cell?_setCell_same _ _ _ g1
  · have hq2 : (l.take k)[i]? = some q := by rw [List.getElem?_take_of_lt (by omega)]; exact hq
    obtain ⟨a1, a2, a3⟩ := h i q hq2
    simp only [Nat.zero_add] at a1 a2 a3
    exact ⟨by rw [put3_other _ _ _ _ _ (by omega) (by omega) (by omega)]; exact a1, by rw [put3_other _ _ _ _ _ (by omega) (by omega) (by omega)]; exact a2, by rw [put3_other _ _ _ _ _ (by omega) (by omega) (by omega)]; exact a3⟩
theorem infoItem : (Tryz.prog.info? 65).map (fun i => (i.zero, i.size, i.bytes)) = some (some (.agg #[.string ⟨#[]⟩, .bool false, .string ⟨#[]⟩]), 3, 40) := by kernel_rfl
end Go.Proofs.YtgfbahjpaaanoaaGreatDoor
/-
  What the laws over lists of items share.
-/
namespace Go.Proofs.YtgfbahjpaaanoaaGreatDoor
open Go.ChangeShapes Go.WideShapes Go.ChangeAt Go.RowKit
/-- The slice at a holds the items l. -/
def ItsIn (w : World) (a : Option Addr) (l : List Rec) : Prop := l = [] ∨ ∃ b off, a = some ⟨b, off, none⟩ ∧ ItemsAt w b off l
theorem ItsIn.keep {w w' : World} {a : Option Addr} {l : List Rec} (h : ItsIn w a l) (hb : Below w.heap.size w w') : ItsIn w' a l := by
  rcases h with h | ⟨b, off, e, hat⟩
  · exact .inl h
  · exact .inr ⟨b, off, e, hat.keep hb⟩
theorem szR_room {left : Int} {r : Rec} (h : ¬ szR left r < 0) : (r.name.size : Int) ≤ left ∧ (r.value.size : Int) ≤ left ∧ szR left r ≤ left := by
  by_cases c1 : left - (r.name.size : Int) < 0
  · rw [show szR left r = -1 from by simp [szR, c1]] at h; omega
  · by_cases c2 : left - (r.name.size : Int) - (r.value.size : Int) < 0
    · rw [show szR left r = -1 from by simp [szR, c1, c2]] at h; omega
    · have e : szR left r = left - (r.name.size : Int) - (r.value.size : Int) := by simp [szR, c1, c2]
      rw [e]
      omega
theorem szRs_room (l : List Rec) : ∀ left : Int, ¬ szRs left l < 0 → left ≤ 1048576 → ∀ (i : Nat) r, l[i]? = some r → r.name.size ≤ 1048576 ∧ r.value.size ≤ 1048576 := by
  induction l with
  | nil => intro left _ _ i r hr; simp at hr
  | cons x l ih =>
    intro left h hl i r hr
    rw [szRs] at h
    by_cases c : szR left x < 0
    · rw [if_pos c] at h; omega
    · rw [if_neg c] at h
      obtain ⟨z1, z2, z3⟩ := szR_room c
      cases i with
      | zero => simp at hr; subst hr; omega
      | succ i => exact ih _ h (by omega) i r (by simpa using hr)
theorem szL_room {l : List Rec} {left : Int} (hl : left ≤ 1048576) (h : ¬ szL left l < 0) : (l.length : Int) ≤ 1048576 ∧ ∀ (i : Nat) r, l[i]? = some r → r.name.size ≤ 1048576 ∧ r.value.size ≤ 1048576 := by
  unfold szL at h
  by_cases c : left - (l.length : Int) < 0
  · rw [if_pos c] at h; omega
  · rw [if_neg c] at h
    exact ⟨by omega, szRs_room l _ h (by omega)⟩
theorem szRs_le (l : List Rec) : ∀ left : Int, szRs left l ≤ left ∨ szRs left l < 0 := by
  induction l with
  | nil => intro left; exact .inl (Int.le_refl _)
  | cons x l ih =>
    intro left
    rw [szRs]
    by_cases c : szR left x < 0
    · rw [if_pos c]; right; decide
    · rw [if_neg c]
      have := (szR_room c).2.2
      rcases ih (szR left x) with h | h
      · left; omega
      · right; exact h
theorem szL_le {l : List Rec} {left : Int} (h : ¬ szL left l < 0) : szL left l ≤ left := by
  unfold szL at h ⊢
  by_cases c : left - (l.length : Int) < 0
  · rw [if_pos c] at h; omega
  · rw [if_neg c] at h ⊢
    rcases szRs_le l (left - (l.length : Int)) with x | x <;> omega
end Go.Proofs.YtgfbahjpaaanoaaGreatDoor
/-
  A slice of items that the call itself grows.
-/
namespace Go.Proofs.YtgfbahjpaaanoaaGreatDoor
open Go.ChangeShapes Go.WideShapes Go.ChangeAt Go.RowKit
def recW (r : Rec) : List Value := [.string r.name, .bool r.has, .string r.value]
def recsW (l : List Rec) : List Value := l.flatMap recW
theorem recsW_len (l : List Rec) : (recsW l).length = l.length * 3 := by
  induction l with
  | nil => rfl
  | cons r l ih => simp only [recsW, List.flatMap_cons, List.length_append, List.length_cons] at ih ⊢; rw [ih]; simp [recW]; omega
theorem recsW_at (l : List Rec) : ∀ (i : Nat) r, l[i]? = some r → (recsW l)[i * 3]? = some (.string r.name) ∧ (recsW l)[i * 3 + 1]? = some (.bool r.has) ∧ (recsW l)[i * 3 + 2]? = some (.string r.value) := by
  induction l with
  | nil => intro i r hr; simp at hr
  | cons x l ih =>
    intro i r hr
    have e : recsW (x :: l) = .string x.name :: .bool x.has :: .string x.value :: recsW l := by simp [recsW, recW]
    rw [e]
    cases i with
    | zero => simp at hr; subst hr; simp
    | succ i =>
      have := ih i r (by simpa using hr)
      rw [show (i + 1) * 3 = i * 3 + 1 + 1 + 1 from by omega]
      simpa using this
/-- v, nil or not, holds the items l in a row of the call's own, from block base on. -/
def OwnI (w : World) (base : Nat) (v : Value) (l : List Rec) : Prop := w.ownsRow base 65 3 v l.length (recsW l)
theorem OwnI.nil (w : World) (base : Nat) : OwnI w base (.slice none 0 0) [] := World.ownsRow_nil _ _ _ _
theorem OwnI.made0 (w : World) (base : Nat) (hb : base ≤ w.heap.size) : OwnI (w.alloc (.cells #[] 65)) base (.slice (some ⟨w.heap.size, 0, none⟩) 0 0) [] := World.ownsRow_made w #[] 0 hb (by unfold maxLen; omega) rfl
theorem OwnI.below {w w' : World} {base : Nat} {v : Value} {l : List Rec} (h : OwnI w base v l) (hb : Below w.heap.size w w') : OwnI w' base v l := by
  obtain ⟨h1, h2⟩ := h
  refine ⟨h1, ?_⟩
  rcases h2 with h2 | ⟨g, c, cur, e, hg, hh, hrest⟩
  · exact .inl h2
  · exact .inr ⟨g, c, cur, e, hg, by rw [hb.block g (Array.getElem?_eq_some_iff.1 hh).1]; exact hh, hrest⟩
theorem OwnI.lower {w : World} {b0 base : Nat} {v : Value} {l : List Rec} (h : OwnI w base v l) (hb : b0 ≤ base) : OwnI w b0 v l := by
  obtain ⟨h1, h2⟩ := h
  refine ⟨h1, ?_⟩
  rcases h2 with h2 | ⟨g, c, cur, e, hg, hrest⟩
  · exact .inl h2
  · exact .inr ⟨g, c, cur, e, by omega, hrest⟩
theorem OwnI.at {w : World} {base : Nat} {v : Value} {l : List Rec} (h : OwnI w base v l) : ∃ a c, v = .slice a l.length c ∧ ItsIn w a l := by
  have h0 := h
  obtain ⟨_, h1 | ⟨g, c, cur, rfl, _⟩⟩ := h
  · have e : l = [] := List.eq_nil_of_length_eq_zero h1.2
    exact ⟨none, 0, by rw [h1.1, e]; rfl, .inl e⟩
  · refine ⟨_, c, rfl, .inr ⟨g, 0, rfl, fun i r hr => ?_⟩⟩
    have hi := (List.getElem?_eq_some_iff.1 hr).1
    obtain ⟨a1, a2, a3⟩ := recsW_at l i r hr
    have c1 := World.ownsRow.cellAt h0 (i * 3) (by omega)
    have c2 := World.ownsRow.cellAt h0 (i * 3 + 1) (by omega)
    have c3 := World.ownsRow.cellAt h0 (i * 3 + 2) (by omega)
    exact ⟨by rw [Nat.zero_add, c1, a1], by rw [Nat.zero_add, c2, a2], by rw [Nat.zero_add, c3, a3]⟩
theorem own_geI {w : World} {base : Nat} {e : TypeId} {size : Nat} {v : Value} {n : Nat} {xs : List Value} (h : w.ownsRow base e size v n xs) (q : Nat) (hq : v.ownBlock = some q) : base ≤ q := by
  obtain ⟨_, h | ⟨g, c, cur, rfl, hg, _⟩⟩ := h
  · rw [h.1] at hq; cases hq
  · simp only [Value.ownBlock, Option.some.injEq] at hq; omega
theorem own_apart {w : World} {base base' : Nat} {v pv : Value} {l : List Rec} {L : List ByteArray} (hp : OwnS w base' pv L) (hv : OwnI w base v l) : pv.ownBlock = none ∨ pv.ownBlock ≠ v.ownBlock := by
  obtain ⟨_, hp | ⟨g, c, cur, rfl, _, hh, _⟩⟩ := hp
  · left; rw [hp.1]; rfl
  · right
    obtain ⟨_, hv | ⟨g2, c2, cur2, rfl, _, hh2, _⟩⟩ := hv
    · rw [hv.1]; simp [Value.ownBlock]
    · simp only [Value.ownBlock, ne_eq, Option.some.injEq]
      rintro rfl
      rw [hh] at hh2
      simp at hh2
theorem wpList_append_item {ops : Array Oper} {rest : List Oper} {o : Oper} {a : Act} {Q : Exit → Act → World → Prop} (w : World) (hgd : o.guard = none) (s x : Operand)
    (ho : o.op = .call { callee := .builtin .append, args := #[s, x], argTypes := #[54, 54] }) (base : Nat) (v : Value) (l : List Rec) (n : ByteArray) (b : Bool) (z : ByteArray)
    (hs : a.eval s = v) (hx : a.eval x = .slice (some ⟨w.heap.size, 0, none⟩) 1 1) (hown : OwnI w base v l) (hl : l.length ≤ 1000000) (hbase : base ≤ w.heap.size)
    (h : ∀ v' w', OwnI w' base v' (l ++ [⟨n, b, z⟩]) → Below base w w' → w.heap.size ≤ w'.heap.size → (∀ base' pv L, OwnS w base' pv L → OwnS w' base' pv L) → wpList Tryz.prog ops Q rest (a.put o.dst v') w') :
    wpList Tryz.prog ops Q (o :: rest) a (w.alloc (.cells #[.string n, .bool b, .string z] 65)) := by
  obtain ⟨i0, hi, hz0, hz1, hz2⟩ := info_parts infoItem
  refine wpList_append_own _ hgd s x 54 ho base 65 i0 (.agg #[.string ⟨#[]⟩, .bool false, .string ⟨#[]⟩]) 3 40 Tryz.underlying54 hi hz0 hz1 hz2 rfl (by decide) v l.length (recsW l) hs (World.ownsRow.alloc hown _) ⟨w.heap.size, 0, none⟩ 1 1 [.string n, .bool b, .string z] hx rfl ?_ ?_ ?_ ?_ ?_ ?_
  · intro j u hj
    match j, hj with
    | 0, hj => simp at hj; subst hj; simp [Addr.add]
    | 1, hj => simp at hj; subst hj; simp [Addr.add]
    | 2, hj => simp at hj; subst hj; simp [Addr.add]
  · intro u hu; simp at hu; rcases hu with rfl | rfl | rfl <;> rfl
  · unfold maxLen; omega
  · omega
  · simp; omega
  · intro v' w' h1 h2 h3
    have e : recsW (l ++ [⟨n, b, z⟩]) = recsW l ++ [.string n, .bool b, .string z] := by simp [recsW, recW]
    refine h v' w' (by unfold OwnI; rw [e, List.length_append]; exact h1) ?_ ?_ ?_
    · exact ((Below.refl base w).alloc hbase _).grown h2 (by simp; omega) (fun q hq => own_geI hown q hq)
    · have hb := ((Below.refl 0 w).alloc (Nat.zero_le _) (.cells #[.string n, .bool b, .string z] 65)).grown h2 (Nat.zero_le _) (fun q _ => Nat.zero_le _)
      exact hb.size
    · intro base' pv L hp
      exact World.ownsRow.kept (World.ownsRow.alloc hp _) h2 (own_apart hp hown)
end Go.Proofs.YtgfbahjpaaanoaaGreatDoor
/-
  What the model's l2Parse and ParseItems answer.
-/
namespace Go.Proofs.YtgfbahjpaaanoaaGreatDoor
open Go.ChangeShapes Go.WideShapes Go.ChangeAt Go.RowKit
theorem trim_le (s : ByteArray) : (trimT s).size ≤ s.size := by
  have h : (Lib.trimS s.data.toList [32, 9]).length ≤ s.data.toList.length := by
    unfold Lib.trimS Lib.trimLeftS Lib.trimRightS
    refine Nat.le_trans (List.dropWhile_sublist _).length_le ?_
    rw [List.length_reverse]
    refine Nat.le_trans (List.dropWhile_sublist _).length_le ?_
    rw [List.length_reverse]
    exact Nat.le_refl _
  have e : (trimT s).size = (Lib.trimS s.data.toList [32, 9]).length := by simp [trimT, ByteArray.size]
  rw [e]
  simpa using h
theorem pcs_small (n : Nat) : ∀ (l : List UInt8) (ins : Bool) (cur : List UInt8), l.length ≤ n → (∀ p ∈ pcs ins cur l, p.length ≤ cur.length + l.length) ∧ (pcs ins cur l).length ≤ l.length + 1 := by
  induction n with
  | zero => intro l ins cur h; have : l = [] := List.eq_nil_of_length_eq_zero (by omega); subst this; simp [pcs]
  | succ n ih =>
    intro l ins cur h
    rw [pcs_first l.length l ins cur (Nat.le_refl _)]
    split
    · rename_i hlt
      obtain ⟨h1, h2⟩ := ih (l.drop (peS ins l + 1)) false [] (by rw [List.length_drop]; omega)
      rw [List.length_drop] at h1 h2
      refine ⟨fun p hp => ?_, by simp only [List.length_cons]; omega⟩
      rcases List.mem_cons.1 hp with rfl | hp
      · simp only [List.length_append, List.length_take]; omega
      · have := h1 p hp; simp only [List.length_nil] at this; omega
    · refine ⟨fun p hp => ?_, by simp⟩
      have e : p = cur ++ l := by simpa using hp
      subst e; simp
theorem str_nil {t : ByteArray} (h : t.size = 0) : t = ⟨#[]⟩ := ByteArray.ext (Array.eq_empty_of_size_eq_zero h)
theorem str_some {v : ByteArray} (h : v.size ≠ 0) : v.toList.isEmpty = false := by
  rw [ByteArray.toList_eq]
  cases hh : v.data.toList with
  | nil => exact absurd (by have := congrArg List.length hh; simpa using this) h
  | cons c r => rfl
def ParseRes (s : ByteArray) (base : Nat) (e : Ending) (w : World) : Prop := ∃ v, e = .returned (.tuple #[v, .int .i64 (parseC s)]) ∧ OwnI w base v (parseL s)
theorem ParseRes.mk {s : ByteArray} {base : Nat} {w : World} {v : Value} {c : Int} {L : List Rec} (h : parseC s = c ∧ parseL s = L) (ho : OwnI w base v L) : ParseRes s base (.returned (.tuple #[v, .int .i64 c])) w := ⟨v, by rw [h.1], by rw [h.2]; exact ho⟩
set_option maxRecDepth 100000 in
set_option maxHeartbeats 8000000 in
theorem l2Parse_any (s : ByteArray) (w : World) (hs : ¬ 1000 < s.size) :
    Calls Tryz.prog 119 #[.string s] w fun e w' => ParseRes s w.heap.size e w' ∧ Below w.heap.size w w' := by
  obtain ⟨sm, sl⟩ := pcs_small s.data.toList.length s.data.toList false [] (Nat.le_refl _)
  rw [size_list] at sm sl
  simp only [List.length_nil, Nat.zero_add] at sm
  have R5 := @parse_bad s hs
  have R2 := fun L => @parse_many s L hs
  have R0 := fun L => @parse_ok s L hs
  have HP : ∀ w, Calls Tryz.prog 143 #[.string s] w fun e w' => (∃ g c, e = .returned (.slice (some ⟨g, 0, none⟩) (pcs false [] s.data.toList).length c) ∧ OwnS w' w.heap.size (.slice (some ⟨g, 0, none⟩) (pcs false [] s.data.toList).length c) ((pcs false [] s.data.toList).map mkB)) ∧ Below w.heap.size w w' := fun w => pieces_any s w (by omega)
  generalize pcs false [] s.data.toList = P at *
  have HSM : Hid (∀ p ∈ P, p.length ≤ s.size) := sm
  have HR5 : Hid (readP P = none → parseC s = 5 ∧ parseL s = []) := R5
  have HR2 : Hid (∀ L, readP P = some L → 20 < L.length → parseC s = 2 ∧ parseL s = []) := R2
  have HR0 : Hid (∀ L, readP P = some L → ¬ 20 < L.length → parseC s = 0 ∧ parseL s = L) := R0
  have HPP : Hid (∀ w, Calls Tryz.prog 143 #[.string s] w fun e w' => (∃ g c, e = .returned (.slice (some ⟨g, 0, none⟩) P.length c) ∧ OwnS w' w.heap.size (.slice (some ⟨g, 0, none⟩) P.length c) (P.map mkB)) ∧ Below w.heap.size w w') := HP
  clear sm R5 R2 R0 HP
  go_enter Tryz.func119, Tryz.ntmps119
  go_wp2_with fail
  refine (HPP.out _).mono ?_
  rintro e w1 ⟨⟨g, c, rfl, hat⟩, hb1⟩
  have HO1 : Hid (OwnI w1 w.heap.size (.slice (some ⟨w.heap.size, 0, none⟩) 0 0) []) := (OwnI.made0 w w.heap.size (Nat.le_refl _)).below hb1
  have HT : Hid (OwnS w1 0 (.slice (some ⟨g, 0, none⟩) P.length c) (P.map mkB)) := OwnS.lower hat (Nat.zero_le _)
  rw [World.size_alloc] at hb1
  have KB1 : Hid (Below w.heap.size w w1) := ((Below.refl _ _).alloc (Nat.le_refl _) _).trans (hb1.mono (Nat.le_succ _))
  generalize hn : P.length = n at *
  have HN : Hid (P.length = n) := hn
  clear hat hb1 HPP hn
  go_wp2_with fail
  go_loopw [4, 6] (fun v i wr => ∃ (k : Nat) (R : List Rec), k ≤ n ∧ R.length ≤ k ∧ i = .int .i64 k ∧ OwnI wr w.heap.size v R ∧ readP P = (readP (P.drop k)).map (R ++ ·) ∧ Below w.heap.size w wr ∧ OwnS wr 0 (.slice (some ⟨g, 0, none⟩) n c) (P.map mkB)) (fun _ i _ => n - (intOf i).toNat)
  case atStart => exact ⟨0, [], Nat.zero_le _, Nat.zero_le _, rfl, HO1.out, by simp, KB1.out, HT.out⟩
  case round =>
    obtain ⟨k, R, hk, hR, rfl, hown, hrd, hb, hat⟩ := hrel
    have HO : Hid (OwnI wr w.heap.size u4 R) := hown
    have HD : Hid (readP P = (readP (P.drop k)).map (R ++ ·)) := hrd
    have HB : Hid (Below w.heap.size w wr) := hb
    have HT : Hid (OwnS wr 0 (.slice (some ⟨g, 0, none⟩) n c) (P.map mkB)) := hat
    have hz := hb.size
    clear hown hrd hb hat HO1 KB1
    by_cases hlt : k < n
    · obtain ⟨p, hp⟩ : ∃ p, P[k]? = some p := ⟨P[k]'(by have := HN.out; omega), List.getElem?_eq_getElem _⟩
      have c1 : wr.cell? ⟨g, k, none⟩ = some (.string (mkB p)) := HT.out.texts k _ (by rw [List.getElem?_map, hp]; rfl)
      have hpz : (mkB p).size ≤ 1000 := by
        have h1 := HSM.out p (List.mem_of_getElem? hp)
        have h2 : (mkB p).size = p.length := by simp [mkB, ByteArray.size]
        omega
      have htz : (trimT (mkB p)).size ≤ 1000 := Nat.le_trans (trim_le _) hpz
      have hdr : P.drop k = p :: P.drop (k + 1) := by
        obtain ⟨hk2, rfl⟩ := List.getElem?_eq_some_iff.1 hp
        exact List.drop_eq_getElem_cons hk2
      have D1 : (trimT (mkB p)).size = 0 → readP P = (readP (P.drop (k + 1))).map (R ++ ·) := fun h => by rw [HD.out, hdr, readP_skip h]
      have D2 : (trimT (mkB p)).size ≠ 0 → readR (trimT (mkB p)) = none → readP P = none := fun h h2 => by rw [HD.out, hdr, readP_bad h h2]; rfl
      have D3 : ∀ r, (trimT (mkB p)).size ≠ 0 → readR (trimT (mkB p)) = some r → readP P = (readP (P.drop (k + 1))).map ((R ++ [r]) ++ ·) := fun r h h2 => by
        rw [HD.out, hdr, readP_take h h2, Option.map_map]
        congr 1
        funext x
        simp
      have gk : (k : Int) < n := by omega
      have LT := fun w => l1Trim_any (mkB p) w hpz
      clear hdr hp HD
      generalize trimT (mkB p) = t at *
      generalize mkB p = pb at *
      have HLT : Hid (∀ w, Calls Tryz.prog 86 #[.string pb] w fun e w' => e = .returned (.string t) ∧ w' = w) := LT
      clear LT
      by_cases ht0 : t.size = 0
      · have HX : Hid (readP P = (readP (P.drop (k + 1))).map (R ++ ·)) := D1 ht0
        have ht := str_nil ht0
        subst ht
        clear D1 D2 D3 ht0 htz
        go_wp2_with fail
        refine (HLT.out _).mono ?_
        rintro e w2 ⟨rfl, rfl⟩
        go_wp2_with fail
        go_roundw
        case rel => exact ⟨k + 1, R, by omega, by omega, by go_num, HO.out, HX.out, HB.out, HT.out⟩
        case measure => simp [intOf]; omega
      · have hte := str_some ht0
        have HD2 : Hid (readR t = none → readP P = none) := D2 ht0
        have HD3 : Hid (∀ r, readR t = some r → readP P = (readP (P.drop (k + 1))).map ((R ++ [r]) ++ ·)) := fun r => D3 r ht0
        clear D1 D2 D3 ht0
        go_wp2_with fail
        refine (HLT.out _).mono ?_
        rintro e w2 ⟨rfl, rfl⟩
        go_wp2_with fail
        refine (l2Item_any t _ htz).mono ?_
        rintro e w3 ⟨⟨r, b, rfl, y1, y2⟩, hb3⟩
        have HB3 : Hid (Below w.heap.size w w3) := HB.out.trans (hb3.mono hz)
        have hz3 := HB3.out.size
        have HO3 : Hid (OwnI w3 w.heap.size u4 R) := HO.out.below hb3
        have HT3 : Hid (OwnS w3 0 (.slice (some ⟨g, 0, none⟩) n c) (P.map mkB)) := HT.out.below hb3
        clear HB HO HT hb3 c1
        cases b
        · have HY := HR5.out (HD2.out (y2 rfl))
          have HYY : Hid (parseC s = 5 ∧ parseL s = []) := HY
          obtain ⟨rn, rh, rv⟩ := r
          clear y1 y2 HY HD2 HD3
          go_wp2_with fail
          go_ret2
          exact ⟨ParseRes.mk HYY.out (OwnI.nil _ _), HB3.out.alloc hz3 _⟩
        · have HY := HD3.out r (y1 rfl)
          have HYY : Hid (readP P = (readP (P.drop (k + 1))).map ((R ++ [r]) ++ ·)) := HY
          obtain ⟨rn, rh, rv⟩ := r
          clear y1 y2 HY HD2 HD3
          have HB4 : Hid (Below w.heap.size w (w3.alloc (.cells #[.string rn, .bool rh, .string rv] 65))) := HB3.out.alloc hz3 _
          have HO4 : Hid (OwnI (w3.alloc (.cells #[.string rn, .bool rh, .string rv] 65)) w.heap.size u4 R) := HO3.out.below ((Below.refl _ _).alloc (Nat.le_refl _) _)
          have HT4 : Hid (OwnS (w3.alloc (.cells #[.string rn, .bool rh, .string rv] 65)) 0 (.slice (some ⟨g, 0, none⟩) n c) (P.map mkB)) := HT3.out.below ((Below.refl _ _).alloc (Nat.le_refl _) _)
          have hz4 : w.heap.size ≤ (w3.alloc (.cells #[.string rn, .bool rh, .string rv] 65)).heap.size := HB4.out.size
          go_wp2_with (at_builtin; refine wpList_append_item _ rfl (.tmp 33) (.tmp 35) rfl w.heap.size _ R rn rh rv rfl (by simp [go_sem]) HO4.out (by omega) hz4 ?_; intro v5 w5 HO5 hb5 hz5 hk5)
          go_roundw
          case rel => exact ⟨k + 1, R ++ [⟨rn, rh, rv⟩], by omega, by simp; omega, by go_num, HO5, HYY.out, HB4.out.trans hb5, hk5 _ _ _ HT4.out⟩
          case measure => simp [intOf]; omega
    · have HX : Hid (readP P = some R) := by
        show _ = _
        rw [HD.out, List.drop_of_length_le (by have := HN.out; omega)]
        simp [readP]
      obtain ⟨ra, rc, rfl, _⟩ := HO.out.at
      have hRn : R.length ≤ 1001 := by omega
      clear HD
      by_cases hbig : 20 < R.length
      · have HY : Hid (parseC s = 2 ∧ parseL s = []) := HR2.out R HX.out hbig
        have gb : (20 : Int) < R.length := by omega
        clear HX
        go_wp2_with fail
        go_ret2
        exact ⟨ParseRes.mk HY.out (OwnI.nil _ _), HB.out⟩
      · have HY : Hid (parseC s = 0 ∧ parseL s = R) := HR0.out R HX.out hbig
        have gb : ¬ (20 : Int) < R.length := by omega
        clear HX
        go_wp2_with fail
        go_ret2
        exact ⟨ParseRes.mk HY.out HO.out, HB.out⟩
end Go.Proofs.YtgfbahjpaaanoaaGreatDoor
/-
  What quoteEnd answers.
-/
namespace Go.Proofs.YtgfbahjpaaanoaaGreatDoor
open Go.ChangeShapes Go.WideShapes Go.ChangeAt Go.RowKit
set_option maxHeartbeats 1000000 in
theorem quoteEnd_any (s : ByteArray) (b : Nat) (w : World) (hs : s.size ≤ 1048576) (hb : b < s.size) :
    Calls Tryz.prog 128 #[.string s, .int .i64 b] w fun e w' => e = .returned (.int .i64 (qEnd s.data.toList b : Int)) ∧ w' = w := by
  go_enter Tryz.func128, Tryz.ntmps128
  go_wp2
  go_loop [5] (fun i => ∃ k : Nat, i = .int .i64 k ∧ ((k ≤ s.size ∧ qEnd s.data.toList b = k + qLen (s.data.toList.drop k)) ∨ (k = s.size + 1 ∧ qEnd s.data.toList b = s.size))) (fun i => s.size + 1 - (intOf i).toNat)
  case atStart => exact ⟨b + 1, by go_num, .inl ⟨by omega, rfl⟩⟩
  case round =>
    obtain ⟨k, rfl, hk⟩ := hrel
    by_cases hlt : k < s.size
    · have HK : Hid (qEnd s.data.toList b = k + qLen (s.data.toList.drop k)) := by
        rcases hk with hk | hk
        · exact hk.2
        · omega
      have HD : Hid (s.data.toList.drop k = s[k] :: s.data.toList.drop (k + 1)) := drop_at s k hlt
      clear hk
      by_cases c1 : (s[k].toNat : Int) = 34
      · have e1 : ((s[k].toNat : Int) == 34) = true := by simpa using c1
        have e2 : ((s[k].toNat : Int) == 92) = false := by simp; omega
        have HE : Hid ((k : Int) = (qEnd s.data.toList b : Int)) := by
          show _ = _
          rw [HK.out, HD.out, qLen_end _ _ c1]; omega
        clear HK HD c1
        go_wp2
        go_ret
        exact ⟨ret_int HE.out, rfl⟩
      · have e1 : ((s[k].toNat : Int) == 34) = false := by simpa using c1
        by_cases c2 : (s[k].toNat : Int) = 92
        · have e2 : ((s[k].toNat : Int) == 92) = true := by simpa using c2
          have HE : Hid ((k + 2 ≤ s.size ∧ qEnd s.data.toList b = (k + 2) + qLen (s.data.toList.drop (k + 2))) ∨ (k + 2 = s.size + 1 ∧ qEnd s.data.toList b = s.size)) := by
            show _ ∨ _
            by_cases hl : k + 1 = s.size
            · right
              refine ⟨by omega, ?_⟩
              rw [HK.out, HD.out, show s.data.toList.drop (k + 1) = [] from List.drop_of_length_le (by simp; omega), qLen_cut _ c2]; omega
            · left
              refine ⟨by omega, ?_⟩
              rw [HK.out, HD.out, drop_at s (k + 1) (by omega), qLen_esc _ _ _ c2, show k + 1 + 1 = k + 2 from rfl]; omega
          clear HK HD c1 c2
          go_wp2
          go_round
          case rel => exact ⟨k + 2, by go_num, HE.out⟩
          case measure => simp [intOf]; omega
        · have e2 : ((s[k].toNat : Int) == 92) = false := by simpa using c2
          have HE : Hid (k + 1 ≤ s.size ∧ qEnd s.data.toList b = (k + 1) + qLen (s.data.toList.drop (k + 1))) := by
            show _ ∧ _
            refine ⟨by omega, ?_⟩
            rw [HK.out, HD.out, qLen_take _ _ c1 c2]; omega
          clear HK HD c1 c2
          go_wp2
          go_round
          case rel => exact ⟨k + 1, by go_num, .inl HE.out⟩
          case measure => simp [intOf]; omega
    · have HE : Hid ((s.size : Int) = (qEnd s.data.toList b : Int)) := by
        show _ = _
        rcases hk with hk | hk
        · rw [hk.2, show s.data.toList.drop k = [] from List.drop_of_length_le (by simp; omega)]; simp [qLen]; omega
        · rw [hk.2]
      clear hk
      go_wp2
      go_ret
      exact ⟨ret_int HE.out, rfl⟩
set_option maxHeartbeats 400000 in
theorem hasQuote_any (s : ByteArray) (w : World) (hs : s.size ≤ 1048576) :
    Calls Tryz.prog 153 #[.string s, .string ⟨#[34]⟩] w fun e w' => e = .returned (.bool (decide (s.data.toList.head? = some 34))) ∧ w' = w := by
  by_cases h : s.size < 1
  · have HE : Hid (decide (s.data.toList.head? = some 34) = false) := by
      show _ = _
      have : s.data.toList = [] := List.eq_nil_of_length_eq_zero (by have := size_list s; omega)
      rw [this]; simp
    go_enter Tryz.func153, Tryz.ntmps153
    go_wp2
    go_ret
    exact ⟨ret_bool HE.out.symm, rfl⟩
  · have HE : Hid (((s.extract 0 1).toList == [34]) = decide (s.data.toList.head? = some 34)) := by
      show _ = _
      have h0 : 0 < s.size := by omega
      have e1 := drop_at s 0 h0
      rw [List.drop_zero] at e1
      have e2 : (s.extract 0 1).toList = [s[0]] := by
        rw [ByteArray.toList_eq, ByteArray.data_extract, Array.toList_extract, List.extract_eq_take_drop, List.drop_zero, e1]; rfl
      rw [e2, e1]
      simp only [List.head?_cons, Option.some.injEq]
      by_cases c : s[0] = 34
      · rw [c]; rfl
      · simp [c]
    go_enter Tryz.func153, Tryz.ntmps153
    go_wp2
    go_ret
    exact ⟨ret_bool HE.out, rfl⟩
end Go.Proofs.YtgfbahjpaaanoaaGreatDoor
/-
  What pieceEnd answers.
-/
namespace Go.Proofs.YtgfbahjpaaanoaaGreatDoor
open Go.ChangeShapes Go.WideShapes Go.ChangeAt Go.RowKit
/-- Where the piece that begins at b ends. -/
def pEnd (l : List UInt8) (b : Nat) : Nat := b + peS false (l.drop b)
theorem pEnd_quote (s : ByteArray) (k : Nat) (hk : k < s.size) (hc : (s[k].toNat : Int) = 34) :
    (qEnd s.data.toList k + 1 ≤ s.size ∧ k + peS false (s.data.toList.drop k) = (qEnd s.data.toList k + 1) + peS false (s.data.toList.drop (qEnd s.data.toList k + 1))) ∨ (qEnd s.data.toList k + 1 = s.size + 1 ∧ k + peS false (s.data.toList.drop k) = s.size) := by
  have hz := size_list s
  have hr : (s.data.toList.drop (k + 1)).length = s.size - (k + 1) := by rw [List.length_drop, hz]
  have hq := qLen_le (s.data.toList.drop (k + 1))
  have e : k + peS false (s.data.toList.drop k) = k + 1 + peS true (s.data.toList.drop (k + 1)) := by
    rw [drop_at s k hk, peS_quote hc]; simp only [Bool.not_false]; omega
  rw [e, peS_in _ (s.data.toList.drop (k + 1)) (Nat.le_refl _)]
  unfold qEnd
  by_cases q : qLen (s.data.toList.drop (k + 1)) < (s.data.toList.drop (k + 1)).length
  · left
    rw [if_pos q, List.drop_drop]
    refine ⟨by omega, ?_⟩
    rw [show k + 1 + (qLen (s.data.toList.drop (k + 1)) + 1) = k + 1 + qLen (s.data.toList.drop (k + 1)) + 1 from by omega]
    omega
  · right
    rw [if_neg q]
    omega
set_option maxHeartbeats 2000000 in
theorem pieceEnd_any (s : ByteArray) (b : Nat) (w : World) (hs : s.size ≤ 1000) (hb : b < s.size) :
    Calls Tryz.prog 105 #[.string s, .int .i64 b] w fun e w' => e = .returned (.int .i64 (pEnd s.data.toList b : Int)) ∧ w' = w := by
  have hz := size_list s
  go_enter Tryz.func105, Tryz.ntmps105
  go_wp2
  go_step3
  go_wp2
  go_step3
  go_wp2
  go_loop [5] (fun i => ∃ k : Nat, i = .int .i64 k ∧ ((k ≤ s.size ∧ pEnd s.data.toList b = k + peS false (s.data.toList.drop k)) ∨ (k = s.size + 1 ∧ pEnd s.data.toList b = s.size))) (fun i => s.size + 1 - (intOf i).toNat)
  case atStart => exact ⟨b, rfl, .inl ⟨by omega, rfl⟩⟩
  case round =>
    obtain ⟨k, rfl, hk⟩ := hrel
    by_cases hlt : k < s.size
    · have HK : Hid (pEnd s.data.toList b = k + peS false (s.data.toList.drop k)) := by
        rcases hk with hk | hk
        · exact hk.2
        · omega
      clear hk
      by_cases c1 : (s[k].toNat : Int) = 34
      · have e1 : ((s[k].toNat : Int) == 34) = true := by simpa using c1
        have hq := pEnd_quote s k hlt c1
        have hqk : k ≤ qEnd s.data.toList k := by unfold qEnd; omega
        have HQ := quoteEnd_any s k w (by omega) hlt
        generalize qEnd s.data.toList k = q at *
        have HX : Hid ((q + 1 ≤ s.size ∧ pEnd s.data.toList b = (q + 1) + peS false (s.data.toList.drop (q + 1))) ∨ (q + 1 = s.size + 1 ∧ pEnd s.data.toList b = s.size)) := by
          rw [HK.out]; exact hq
        have hq1 : q ≤ s.size := by rcases hq with h | h <;> omega
        clear hq HK c1
        go_wp2_with fail
        refine HQ.mono ?_
        rintro e w1 ⟨rfl, rfl⟩
        go_wp2_with fail
        go_round
        case rel => exact ⟨q + 1, by go_num, HX.out⟩
        case measure => simp [intOf]; omega
      · have e1 : ((s[k].toNat : Int) == 34) = false := by simpa using c1
        by_cases c2 : (s[k].toNat : Int) = 44
        · have e2 : ((s[k].toNat : Int) == 44) = true := by simpa using c2
          have HX : Hid ((k : Int) = (pEnd s.data.toList b : Int)) := by
            show _ = _
            rw [HK.out, drop_at s k hlt, peS_comma c2]; omega
          have hm : min (k : Int) (s.size : Int) = k := by omega
          clear HK c1 c2
          go_wp2_with fail
          go_ret
          exact ⟨ret_int HX.out, rfl⟩
        · have e2 : ((s[k].toNat : Int) == 44) = false := by simpa using c2
          have HX : Hid (k + 1 ≤ s.size ∧ pEnd s.data.toList b = (k + 1) + peS false (s.data.toList.drop (k + 1))) := by
            show _ ∧ _
            refine ⟨by omega, ?_⟩
            rw [HK.out, drop_at s k hlt, peS_take (by simp) c1 (fun x => c2 x.1)]; omega
          clear HK c1 c2
          go_wp2_with fail
          go_round
          case rel => exact ⟨k + 1, by go_num, .inl HX.out⟩
          case measure => simp [intOf]; omega
    · have HX : Hid ((s.size : Int) = (pEnd s.data.toList b : Int)) := by
        show _ = _
        rcases hk with hk | hk
        · rw [hk.2, show s.data.toList.drop k = [] from List.drop_of_length_le (by omega)]; simp [peS]; omega
        · rw [hk.2]
      have hm : min (k : Int) (s.size : Int) = s.size := by omega
      clear hk
      go_wp2_with fail
      go_ret
      exact ⟨ret_int HX.out, rfl⟩
end Go.Proofs.YtgfbahjpaaanoaaGreatDoor
/-
  What the pieces of a text tell, one behind the other, plainly.
-/
namespace Go.Proofs.YtgfbahjpaaanoaaGreatDoor
/-- The pieces, trimmed, without the empty ones. -/
def trims : List (List UInt8) → List ByteArray
  | [] => []
  | p :: ps => if (trimT (mkB p)).size = 0 then trims ps else trimT (mkB p) :: trims ps
theorem trims_skip {p : List UInt8} {ps : List (List UInt8)} (h : (trimT (mkB p)).size = 0) : trims (p :: ps) = trims ps := by rw [trims, if_pos h]
theorem trims_take {p : List UInt8} {ps : List (List UInt8)} (h : (trimT (mkB p)).size ≠ 0) : trims (p :: ps) = trimT (mkB p) :: trims ps := by rw [trims, if_neg h]
theorem trims_len : ∀ ps : List (List UInt8), (trims ps).length ≤ ps.length
  | [] => Nat.le_refl _
  | p :: ps => by
    have := trims_len ps
    rw [trims]
    split <;> simp only [List.length_cons] <;> omega
/-- What is told of a trimmed piece: an item and its code. -/
def Tells (t : ByteArray) (x : Rec × Int) : Prop := (x.2 = 0 ∧ readR t = some x.1) ∨ (x.2 = 5 ∧ readR t = none)
def AllTell : List ByteArray → List (Rec × Int) → Prop
  | [], [] => True
  | t :: d, x :: xs => Tells t x ∧ AllTell d xs
  | _, _ => False
theorem readP_all : ∀ (ps : List (List UInt8)) (xs : List (Rec × Int)), AllTell (trims ps) xs → (∀ x ∈ xs, x.2 = 0) → readP ps = some (xs.map (·.1))
  | [], [], _, _ => rfl
  | [], _ :: _, h, _ => h.elim
  | p :: ps, xs, h, h0 => by
    by_cases c : (trimT (mkB p)).size = 0
    · rw [trims_skip c] at h
      rw [readP_skip c]
      exact readP_all ps xs h h0
    · rw [trims_take c] at h
      match xs, h, h0 with
      | x :: xs, ⟨hx, ht⟩, h0 =>
        have hx0 := h0 x (by simp)
        rcases hx with hx | hx
        · rw [readP_take c hx.2, readP_all ps xs ht (fun y hy => h0 y (by simp [hy]))]
          rfl
        · omega
theorem readP_none : ∀ (ps : List (List UInt8)) (t : ByteArray), t ∈ trims ps → readR t = none → readP ps = none
  | [], t, h, _ => by simp [trims] at h
  | p :: ps, t, h, hr => by
    by_cases c : (trimT (mkB p)).size = 0
    · rw [trims_skip c] at h
      rw [readP_skip c]
      exact readP_none ps t h hr
    · rw [trims_take c] at h
      cases hq : readR (trimT (mkB p)) with
      | none => exact readP_bad c hq
      | some r =>
        rcases List.mem_cons.1 h with rfl | h
        · rw [hq] at hr; cases hr
        · rw [readP_take c hq, readP_none ps t h hr]; rfl
theorem trim_nothing : (trimT (mkB [])).size = 0 := by
  have := trim_le (mkB [])
  have e : (mkB []).size = 0 := rfl
  omega
theorem trims_nil : trims (pcs false [] []) = [] := by
  rw [show pcs false [] [] = [[]] from rfl, trims_skip trim_nothing]
  rfl
/-- One piece further on. -/
theorem trims_step (s : ByteArray) (b : Nat) (hb : b < s.size) :
    trims (pcs false [] (s.data.toList.drop b)) = trims ([(s.data.toList.drop b).take (pEnd s.data.toList b - b)] ++ (if pEnd s.data.toList b + 1 ≤ s.size then pcs false [] (s.data.toList.drop (pEnd s.data.toList b + 1)) else [])) := by
  have hz := size_list s
  have hl : (s.data.toList.drop b).length = s.size - b := by rw [List.length_drop, hz]
  have hp := peS_le _ (s.data.toList.drop b) false (Nat.le_refl _)
  rw [pcs_first _ (s.data.toList.drop b) false [] (Nat.le_refl _)]
  unfold pEnd
  rw [show b + peS false (s.data.toList.drop b) - b = peS false (s.data.toList.drop b) from by omega]
  by_cases q : peS false (s.data.toList.drop b) < (s.data.toList.drop b).length
  · rw [if_pos q, if_pos (by omega), List.drop_drop, List.nil_append, show b + (peS false (s.data.toList.drop b) + 1) = b + peS false (s.data.toList.drop b) + 1 from by omega]
    rfl
  · rw [if_neg q, if_neg (by omega), List.take_of_length_le (by omega)]
    rfl
/-- Where the teller stands: done is what it has told of. -/
def TellAt (s : ByteArray) (done : List ByteArray) (b : Nat) : Prop := (b ≤ s.size ∧ trims (pcs false [] s.data.toList) = done ++ trims (pcs false [] (s.data.toList.drop b))) ∨ (b = s.size + 1 ∧ trims (pcs false [] s.data.toList) = done)
theorem TellAt.over {s : ByteArray} {done : List ByteArray} {b : Nat} (h : TellAt s done b) (hb : ¬ b < s.size) : trims (pcs false [] s.data.toList) = done := by
  have hz := size_list s
  rcases h with h | h
  · rw [h.2, List.drop_of_length_le (by omega), trims_nil, List.append_nil]
  · exact h.2
theorem TellAt.skip {s : ByteArray} {done : List ByteArray} {b : Nat} (h : TellAt s done b) (hb : b < s.size) (ht : (trimT (mkB ((s.data.toList.drop b).take (pEnd s.data.toList b - b)))).size = 0) : TellAt s done (pEnd s.data.toList b + 1) := by
  have hz := size_list s
  have hp := peS_le _ (s.data.toList.drop b) false (Nat.le_refl _)
  rw [List.length_drop, hz] at hp
  rcases h with h | h
  · have e := h.2
    rw [trims_step s b hb, List.singleton_append, trims_skip ht] at e
    by_cases q : pEnd s.data.toList b + 1 ≤ s.size
    · rw [if_pos q] at e; exact .inl ⟨q, e⟩
    · rw [if_neg q] at e
      refine .inr ⟨by unfold pEnd at q ⊢; omega, by rw [e]; simp [trims]⟩
  · omega
theorem TellAt.take {s : ByteArray} {done : List ByteArray} {b : Nat} (h : TellAt s done b) (hb : b < s.size) (ht : (trimT (mkB ((s.data.toList.drop b).take (pEnd s.data.toList b - b)))).size ≠ 0) :
    TellAt s (done ++ [trimT (mkB ((s.data.toList.drop b).take (pEnd s.data.toList b - b)))]) (pEnd s.data.toList b + 1) ∧ (done ++ [trimT (mkB ((s.data.toList.drop b).take (pEnd s.data.toList b - b)))]) <+: trims (pcs false [] s.data.toList) := by
  have hz := size_list s
  have hp := peS_le _ (s.data.toList.drop b) false (Nat.le_refl _)
  rw [List.length_drop, hz] at hp
  rcases h with h | h
  · have e := h.2
    rw [trims_step s b hb, List.singleton_append, trims_take ht] at e
    refine ⟨?_, ?_⟩
    · by_cases q : pEnd s.data.toList b + 1 ≤ s.size
      · rw [if_pos q] at e; exact .inl ⟨q, by rw [e]; simp⟩
      · rw [if_neg q] at e
        exact .inr ⟨by unfold pEnd at q ⊢; omega, by rw [e]; simp [trims]⟩
    · rw [e]
      refine ⟨trims (if pEnd s.data.toList b + 1 ≤ s.size then pcs false [] (s.data.toList.drop (pEnd s.data.toList b + 1)) else []), ?_⟩
      rw [List.append_assoc]
      rfl
  · omega
theorem tells_snoc : ∀ {d : List ByteArray} {xs : List (Rec × Int)} {t : ByteArray} {x : Rec × Int}, AllTell d xs → Tells t x → AllTell (d ++ [t]) (xs ++ [x])
  | [], [], _, _, _, hx => ⟨hx, trivial⟩
  | _ :: _, _ :: _, _, _, h, hx => ⟨h.1, tells_snoc h.2 hx⟩
theorem tells_len : ∀ {d : List ByteArray} {xs : List (Rec × Int)}, AllTell d xs → d.length = xs.length
  | [], [], _ => rfl
  | _ :: _, _ :: _, h => by simp [tells_len h.2]
theorem tells_last : ∀ {d : List ByteArray} {xs : List (Rec × Int)} {x : Rec × Int}, AllTell d (xs ++ [x]) → ∃ t ∈ d, Tells t x
  | [], [], _, h => h.elim
  | [], _ :: _, _, h => h.elim
  | t :: _, [], _, h => ⟨t, by simp, h.1⟩
  | _ :: _, _ :: _, _, h => by
    obtain ⟨t, ht, hx⟩ := tells_last h.2
    exact ⟨t, by simp [ht], hx⟩
end Go.Proofs.YtgfbahjpaaanoaaGreatDoor
/-
  strings.Cut at a sign that stands alone.
-/
namespace Go.Proofs.YtgfbahjpaaanoaaGreatDoor
open Go.ChangeShapes Go.WideShapes Go.ChangeAt Go.RowKit Go.Sort
theorem idx_eq : ∀ l : List UInt8, Lib.indexByte l 61 = if eqAt l < l.length then (eqAt l : Int) else -1
  | [] => by simp [Lib.indexByte, eqAt]
  | c :: r => by
    have ih := idx_eq r
    rw [Lib.indexByte, eqAt]
    by_cases h : (c.toNat : Int) = 61
    · have hc : c = 61 := UInt8.toNat_inj.1 (by simpa using (by omega : c.toNat = 61))
      rw [if_pos (by rw [hc]; rfl), if_pos h]
      simp
    · have hc : ¬ (c == 61) = true := by
        intro e
        have e2 : c = 61 := by simpa using e
        rw [e2] at h
        exact h rfl
      rw [if_neg hc, if_neg h, ih]
      by_cases q : eqAt r < r.length
      · have e1 : ¬ ((eqAt r : Int) == -1) = true := by simp
        rw [if_pos q, if_neg e1, if_pos (by simp only [List.length_cons]; omega)]
        omega
      · rw [if_neg q, if_pos (by rfl), if_neg (by simp only [List.length_cons]; omega)]
theorem index_lib (s : ByteArray) (w : World) :
    Calls Tryz.prog 168 #[.string s, .string ⟨#[61]⟩] w fun e w' => e = .returned (.int .i64 (Lib.indexByte s.data.toList 61)) ∧ w' = w :=
  Any.stringslite_Index_one Tryz.lays219 s 61 w
set_option maxRecDepth 100000 in
set_option maxHeartbeats 2000000 in
theorem cut_yes (s : ByteArray) (w : World) (hs : s.size ≤ 1000) (h : eqAt s.data.toList < s.size) :
    Calls Tryz.prog 152 #[.string s, .string ⟨#[61]⟩] w fun e w' => e = .returned (.tuple #[.string (s.extract 0 (eqAt s.data.toList)), .string (s.extract (eqAt s.data.toList + 1) s.size), .bool true]) ∧ Below w.heap.size w w' := by
  have HI := index_lib s w
  rw [idx_eq, if_pos (by rw [size_list]; exact h)] at HI
  generalize eqAt s.data.toList = k at *
  have g0 : (0 : Int) ≤ k := by omega
  have g1 : (k : Int) ≤ s.size := by omega
  have g2 : (k : Int) + 1 ≤ s.size := by omega
  go_enter Tryz.func152, Tryz.ntmps152
  go_wp2_with fail
  refine HI.mono ?_
  rintro e w1 ⟨rfl, rfl⟩
  go_wp2_with fail
  refine wp_region_quiet_below (by kernel_rfl) (by kernel_rfl) ?_
  repeat (go_big_quiet_step (fail))
  refine wpQuiet_nil ?_
  intro W2 hW2
  have hbW2 : Below w1.heap.size w1 W2 := by
    obtain ⟨⟨d, os⟩, rfl⟩ := hW2
    exact below_regrown w1 d os
  clear hW2
  go_wp2_with fail
  exact bodyPost_ret (v := .tuple #[.string (s.extract 0 k), .string (s.extract (k + 1) s.size), .bool true]) (by simp [results, Tryz.results152, go_sem]) rfl ⟨rfl, hbW2⟩
set_option maxHeartbeats 2000000 in
theorem cut_no (s : ByteArray) (w : World) (h : ¬ eqAt s.data.toList < s.size) :
    Calls Tryz.prog 152 #[.string s, .string ⟨#[61]⟩] w fun e w' => e = .returned (.tuple #[.string s, .string ⟨#[]⟩, .bool false]) ∧ Below w.heap.size w w' := by
  have HI := index_lib s w
  rw [idx_eq, if_neg (by rw [size_list]; exact h)] at HI
  go_enter Tryz.func152, Tryz.ntmps152
  go_wp2_with fail
  refine HI.mono ?_
  rintro e w1 ⟨rfl, rfl⟩
  go_wp2_with fail
  exact bodyPost_ret (v := .tuple #[.string s, .string ⟨#[]⟩, .bool false]) (by simp [results, Tryz.results152, go_sem]) rfl ⟨rfl, Below.refl _ _⟩
set_option maxHeartbeats 2000000 in
theorem cutS_of (s : ByteArray) (w : World) (a b : ByteArray) (h : Bool) (hc : Calls Tryz.prog 152 #[.string s, .string ⟨#[61]⟩] w fun e w' => e = .returned (.tuple #[.string a, .string b, .bool h]) ∧ Below w.heap.size w w') :
    Calls Tryz.prog 129 #[.string s, .string ⟨#[61]⟩] w fun e w' => e = .returned (.tuple #[.string a, .string b, .bool h]) ∧ Below w.heap.size w w' := by
  go_enter Tryz.func129, Tryz.ntmps129
  go_wp2_with fail
  refine hc.mono ?_
  rintro e w1 ⟨rfl, hb⟩
  go_wp2_with fail
  exact bodyPost_ret (v := .tuple #[.string a, .string b, .bool h]) (by simp [results, Tryz.results129, go_sem]) rfl ⟨rfl, hb⟩
end Go.Proofs.YtgfbahjpaaanoaaGreatDoor
/-
  What UnquoteText answers.
-/
namespace Go.Proofs.YtgfbahjpaaanoaaGreatDoor
open Go.ChangeShapes Go.WideShapes Go.ChangeAt Go.RowKit
set_option maxHeartbeats 400000 in
theorem implUnquote_long (s : ByteArray) (w : World) (h : 2002 < s.size) :
    Calls Tryz.prog 130 #[.string s] w fun e w' => e = .returned (.agg #[.int .i64 2, .string ⟨#[]⟩]) ∧ Below w.heap.size w w' := by
  have hh : (2002 : Int) < s.size := by omega
  go_enter Tryz.func130, Tryz.ntmps130
  go_wp2
  exact bodyPost_ret (v := .agg #[.int .i64 2, .string ⟨#[]⟩]) (by simp [results, Tryz.results130, go_sem]) rfl ⟨rfl, (Below.refl _ _).alloc (Nat.le_refl _) _⟩
set_option maxHeartbeats 1000000 in
theorem implUnquote_bad (s : ByteArray) (w : World) (hs : s.size ≤ 2002) (hp : unqB s = false) :
    Calls Tryz.prog 130 #[.string s] w fun e w' => e = .returned (.agg #[.int .i64 5, .string ⟨#[]⟩]) ∧ Below w.heap.size w w' := by
  have hh : ¬ (2002 : Int) < s.size := by omega
  rw [unqB_ends] at hp
  by_cases h1 : s.data.toList.head? = some 34
  · have H1 : Hid (decide (s.data.toList.head? = some 34) = true) := by show _ = _; simpa using h1
    have h0 : 0 < s.size := by
      cases e : s.data.toList with
      | nil => rw [e] at h1; simp at h1
      | cons c t => have := size_list s
                    rw [e] at this; simp only [List.length_cons] at this; omega
    have H2 := quoteEnd_any s 0 (w.alloc (.cells #[.int .i64 0, .string ⟨#[]⟩] 98)) (by omega) h0
    by_cases h2 : qEnd s.data.toList 0 + 1 = s.size
    · have HP : Hid (plainL s.data.toList = false) := by
        show _ = _
        rw [H1.out, show decide (qEnd s.data.toList 0 + 1 = s.size) = true from by simpa using h2] at hp
        simpa using hp
      generalize qEnd s.data.toList 0 = q at *
      have e2 : ((q : Int) != (s.size : Int) - 1) = false := by simp; omega
      clear hp h1
      go_enter Tryz.func130, Tryz.ntmps130
      go_wp2_with fail
      refine (hasQuote_any s _ (by omega)).mono ?_
      rintro e w1 ⟨rfl, rfl⟩
      rw [H1.out]
      go_wp2_with fail
      refine H2.mono ?_
      rintro e w1 ⟨rfl, rfl⟩
      go_wp2_with fail
      refine (allPlain_any s _ (by omega)).mono ?_
      rintro e w1 ⟨rfl, rfl⟩
      rw [HP.out]
      go_wp2
      exact bodyPost_ret (v := .agg #[.int .i64 5, .string ⟨#[]⟩]) (by simp [results, Tryz.results130, go_sem]) rfl ⟨rfl, (Below.refl _ _).alloc (Nat.le_refl _) _⟩
    · have hq := qLen_le (s.data.toList.drop 1)
      generalize hqe : qEnd s.data.toList 0 = q at *
      have e2 : ((q : Int) != (s.size : Int) - 1) = true := by simp; omega
      clear hp h1
      go_enter Tryz.func130, Tryz.ntmps130
      go_wp2_with fail
      refine (hasQuote_any s _ (by omega)).mono ?_
      rintro e w1 ⟨rfl, rfl⟩
      rw [H1.out]
      go_wp2_with fail
      refine H2.mono ?_
      rintro e w1 ⟨rfl, rfl⟩
      go_wp2_with fail
      exact bodyPost_ret (v := .agg #[.int .i64 5, .string ⟨#[]⟩]) (by simp [results, Tryz.results130, go_sem]) rfl ⟨rfl, (Below.refl _ _).alloc (Nat.le_refl _) _⟩
  · have H1 : Hid (decide (s.data.toList.head? = some 34) = false) := by show _ = _; simpa using h1
    clear hp h1
    go_enter Tryz.func130, Tryz.ntmps130
    go_wp2_with fail
    refine (hasQuote_any s _ (by omega)).mono ?_
    rintro e w1 ⟨rfl, rfl⟩
    rw [H1.out]
    go_wp2_with fail
    exact bodyPost_ret (v := .agg #[.int .i64 5, .string ⟨#[]⟩]) (by simp [results, Tryz.results130, go_sem]) rfl ⟨rfl, (Below.refl _ _).alloc (Nat.le_refl _) _⟩
/-- One byte further on, where the quotes end as they should. -/
theorem unq_last {acc l : List UInt8} (h : (unq acc l).2 = true) (hl : l.length = 1) : (unq acc l).1 = acc := by
  match l, hl with
  | [c], _ =>
    by_cases e : (c.toNat : Int) = 34
    · simp only [unq, if_pos e]
    · simp only [unq, if_neg e] at h; cases h
theorem unq_far {acc l : List UInt8} (h : (unq acc l).2 = true) : l ≠ [] := by
  intro e; subst e; simp [unq] at h
set_option maxHeartbeats 4000000 in
theorem implUnquote_any (s : ByteArray) (w : World) (hs : s.size ≤ 2002) (hp : unqB s = true) :
    Calls Tryz.prog 130 #[.string s] w fun e w' => e = .returned (.agg #[.int .i64 0, .string (unqS s)]) ∧ Below w.heap.size w w' := by
  have hh : ¬ (2002 : Int) < s.size := by omega
  have HB : Hid (unqB s = true) := hp
  rw [unqB_ends, Bool.and_eq_true, Bool.and_eq_true, decide_eq_true_iff, decide_eq_true_iff] at hp
  obtain ⟨⟨h1, h2⟩, h3⟩ := hp
  have H1 : Hid (decide (s.data.toList.head? = some 34) = true) := by show _ = _; simpa using h1
  have hq0 : 1 ≤ qEnd s.data.toList 0 := by unfold qEnd; omega
  have h0 : 0 < s.size := by omega
  have HT : Hid (unqT s.data.toList = unq [] (s.data.toList.drop 1)) := unqT_go (by have := size_list s; omega) h1 h3
  have HP : Hid (plainL s.data.toList = true) := h3
  have H2 := quoteEnd_any s 0 (w.alloc (.cells #[.int .i64 0, .string ⟨#[]⟩] 98)) (by omega) h0
  generalize qEnd s.data.toList 0 = q at *
  have e2 : ((q : Int) != (s.size : Int) - 1) = false := by simp; omega
  clear h1 h3
  go_enter Tryz.func130, Tryz.ntmps130
  go_wp2_with fail
  refine (hasQuote_any s _ (by omega)).mono ?_
  rintro e w1 ⟨rfl, rfl⟩
  rw [H1.out]
  go_wp2_with fail
  refine H2.mono ?_
  rintro e w1 ⟨rfl, rfl⟩
  go_wp2_with fail
  refine (allPlain_any s _ (by omega)).mono ?_
  rintro e w1 ⟨rfl, rfl⟩
  rw [HP.out]
  clear HP H1
  go_wp2
  go_loopw [3, 4] (fun v i wr => ∃ (k : Nat) (acc : List UInt8), k < s.size ∧ acc.length ≤ k ∧ i = .int .i64 k ∧ OwnR wr (w.heap.size + 1) v acc ∧ unqT s.data.toList = unq acc (s.data.toList.drop k) ∧ Below (w.heap.size + 1) (w.alloc (.cells #[.int .i64 0, .string ⟨#[]⟩] 98)) wr) (fun _ i _ => s.size - (intOf i).toNat)
  case atStart => exact ⟨1, [], by omega, by simp, rfl, OwnR.nil _ _, HT.out, Below.refl _ _⟩
  case round =>
    obtain ⟨k, acc, hk, ha, rfl, hown, hq, hb⟩ := hrel
    have HO : Hid (OwnR wr (w.heap.size + 1) u3 acc) := hown
    have HQ : Hid (unqT s.data.toList = unq acc (s.data.toList.drop k)) := hq
    have HR : Hid ((unq acc (s.data.toList.drop k)).2 = true) := by
      show _ = _
      rw [← HQ.out]; exact HB.out
    have hz : w.heap.size + 1 ≤ wr.heap.size := by have := hb.size; rwa [World.size_alloc] at this
    have HD : Hid (s.data.toList.drop k = s[k] :: s.data.toList.drop (k + 1)) := drop_at s k hk
    clear hown hq HT
    by_cases hlt : k + 1 < s.size
    · have g0 : (k : Int) < (s.size : Int) - 1 := by omega
      by_cases c2 : (s[k].toNat : Int) = 92
      · have e2 : ((s[k].toNat : Int) == 92) = true := by simpa using c2
        have HE : Hid (unqT s.data.toList = unq (acc ++ [s[k + 1]]) (s.data.toList.drop (k + 2))) := by
          show _ = _
          rw [HQ.out, HD.out, drop_at s (k + 1) hlt, unq_esc _ _ _ _ c2]
        have hk2 : k + 2 < s.size := by
          have h := HB.out
          unfold unqB at h
          rw [HE.out] at h
          have h4 := unq_far h
          have := size_list s
          by_cases h5 : k + 2 < s.size
          · exact h5
          · exact absurd (List.drop_of_length_le (by omega)) h4
        clear HQ HD HR c2
        go_wp2_with (at_builtin; refine wpList_append_byteR _ rfl (.tmp 39) (.tmp 43) rfl (w.heap.size + 1) _ acc _ s[k + 1] rfl rfl HO.out rfl (by omega) hz ?_; intro v2 w2 HO2 hb2 hz2)
        go_roundw
        case rel => exact ⟨k + 2, acc ++ [s[k + 1]], hk2, by simp; omega, by go_num, HO2, HE.out, hb.trans hb2⟩
        case measure => simp [intOf]; omega
      · have e2 : ((s[k].toNat : Int) == 92) = false := by simpa using c2
        have c1 : ¬ (s[k].toNat : Int) = 34 := by
          intro c1
          have h := HR.out
          rw [HD.out, unq_end _ _ _ c1] at h
          have := size_list s
          simp at h
          omega
        have HE : Hid (unqT s.data.toList = unq (acc ++ [s[k]]) (s.data.toList.drop (k + 1))) := by
          show _ = _
          rw [HQ.out, HD.out, unq_take _ _ _ c1 c2]
        clear HQ HD HR c2 c1
        go_wp2_with (at_builtin; refine wpList_append_byteR _ rfl (.tmp 39) (.tmp 43) rfl (w.heap.size + 1) _ acc _ s[k] rfl rfl HO.out rfl (by omega) hz ?_; intro v2 w2 HO2 hb2 hz2)
        go_roundw
        case rel => exact ⟨k + 1, acc ++ [s[k]], by omega, by simp; omega, by go_num, HO2, HE.out, hb.trans hb2⟩
        case measure => simp [intOf]; omega
    · have g0 : ¬ (k : Int) < (s.size : Int) - 1 := by omega
      have HE : Hid ((⟨acc.toArray⟩ : ByteArray) = unqS s) := by
        show _ = _
        unfold unqS
        rw [HQ.out, unq_last HR.out (by have := size_list s; rw [List.length_drop]; omega)]
      have hcv := HO.out.text
      obtain ⟨hzz, p0, p1, f0, f1, kb⟩ := text_room hb
      generalize (⟨acc.toArray⟩ : ByteArray) = r at *
      obtain ⟨q0, q1⟩ := two_set (v0 := .int .i64 0) (v1 := .string r) p0 p1
      clear HQ HD HR
      go_wp2_with fail
      exact bodyPost_ret (v := .agg #[.int .i64 0, .string r]) (by simp [results, Tryz.results130, go_sem, q0, q1]) rfl ⟨by rw [HE.out], (kb.setCell (Nat.le_refl _) _).setCell (Nat.le_refl _) _⟩
end Go.Proofs.YtgfbahjpaaanoaaGreatDoor
/-
  What itemOf answers.
-/
namespace Go.Proofs.YtgfbahjpaaanoaaGreatDoor
open Go.ChangeShapes Go.WideShapes Go.ChangeAt Go.RowKit
def ItemOfRes (s : ByteArray) (e : Ending) : Prop := ∃ (r : Rec) (c : Int), e = .returned (.tuple #[.agg #[.string r.name, .bool r.has, .string r.value], .int .i64 c]) ∧ ((c = 0 ∧ readR s = some r) ∨ (c = 5 ∧ readR s = none))
theorem ItemOfRes.no {s : ByteArray} (n : ByteArray) (h : Bool) (v : ByteArray) (hr : readR s = none) : ItemOfRes s (.returned (.tuple #[.agg #[.string n, .bool h, .string v], .int .i64 5])) := ⟨⟨n, h, v⟩, 5, rfl, .inr ⟨rfl, hr⟩⟩
theorem ItemOfRes.yes {s : ByteArray} {n : ByteArray} {h : Bool} {v : ByteArray} (hr : readR s = some ⟨n, h, v⟩) : ItemOfRes s (.returned (.tuple #[.agg #[.string n, .bool h, .string v], .int .i64 0])) := ⟨⟨n, h, v⟩, 0, rfl, .inl ⟨rfl, hr⟩⟩
/-- Three cells of a block that may be written. -/
structure Three (w : World) (B : Nat) (a b c : Value) : Prop where
  c0 : w.cell? ⟨B, 0, none⟩ = some a
  c1 : w.cell? ⟨B, 1, none⟩ = some b
  c2 : w.cell? ⟨B, 2, none⟩ = some c
  f0 : w.frozen? ⟨B, 0, none⟩ = false
  f1 : w.frozen? ⟨B, 1, none⟩ = false
  f2 : w.frozen? ⟨B, 2, none⟩ = false
theorem Three.keep {w w' : World} {B : Nat} {a b c : Value} (h : Three w B a b c) (hb : Below w.heap.size w w') : Three w' B a b c where
  c0 := by rw [hb.cell (block_lt_of_cell h.c0)]; exact h.c0
  c1 := by rw [hb.cell (block_lt_of_cell h.c1)]; exact h.c1
  c2 := by rw [hb.cell (block_lt_of_cell h.c2)]; exact h.c2
  f0 := by rw [hb.frozen (block_lt_of_cell h.c0)]; exact h.f0
  f1 := by rw [hb.frozen (block_lt_of_cell h.c1)]; exact h.f1
  f2 := by rw [hb.frozen (block_lt_of_cell h.c2)]; exact h.f2
theorem Three.new (w : World) (a b c : Value) (t : TypeId) : Three (w.alloc (.cells #[a, b, c] t)) w.heap.size a b c where
  c0 := by simp
  c1 := by simp
  c2 := by simp
  f0 := by simp
  f1 := by simp
  f2 := by simp
theorem Three.alloc {w : World} {B : Nat} {a b c : Value} (h : Three w B a b c) (o : Obj) : Three (w.alloc o) B a b c := h.keep ((Below.refl _ _).alloc (Nat.le_refl _) _)
theorem Three.lt {w : World} {B : Nat} {a b c : Value} (h : Three w B a b c) : B < w.heap.size := block_lt_of_cell h.c0
theorem put_alloc {w w3 : World} (h : Below w.heap.size w w3) (a b c : Value) (o : Obj) : Below w.heap.size w ((((w3.setCell ⟨w.heap.size, 0, none⟩ a).setCell ⟨w.heap.size, 1, none⟩ b).setCell ⟨w.heap.size, 2, none⟩ c).alloc o) := by
  have k := ((h.setCell (p := ⟨w.heap.size, 0, none⟩) (Nat.le_refl _) a).setCell (p := ⟨w.heap.size, 1, none⟩) (Nat.le_refl _) b).setCell (p := ⟨w.heap.size, 2, none⟩) (Nat.le_refl _) c
  exact k.alloc k.size _
set_option maxRecDepth 100000 in
set_option maxHeartbeats 4000000 in
theorem itemOf_bare (s : ByteArray) (w : World) (hset : SetIs w) (hs : s.size ≤ 1000) (h : ¬ eqAt s.data.toList < s.size) :
    Calls Tryz.prog 106 #[.string s] w fun e w' => ItemOfRes s e ∧ Below w.heap.size w w' := by
  have hle := eqAt_le s.data.toList
  rw [size_list] at hle
  have hk : eqAt s.data.toList = s.size := by omega
  have R1 := @read_noname s
  have R2 := @read_bare s
  rw [hk] at R1 R2
  have ee : s.extract 0 s.size = s := ByteArray.extract_zero_size
  rw [ee] at R1 R2
  have RR : Hid ((wordS s = false → readR s = none) ∧ (wordS s = true → readR s = some ⟨s, false, ⟨#[]⟩⟩)) := ⟨R1, fun h => R2 h rfl⟩
  clear R1 R2
  have HC := fun w => cutS_of s w _ _ _ (cut_no s w h)
  have HCC : Hid (∀ w, Calls Tryz.prog 129 #[.string s, .string ⟨#[61]⟩] w fun e w' => e = .returned (.tuple #[.string s, .string ⟨#[]⟩, .bool false]) ∧ Below w.heap.size w w') := HC
  have HS : Hid (SetIs w) := hset
  clear hle hk HC hset ee h
  have T0 : Hid (Three (w.alloc (.cells #[.string ⟨#[]⟩, .bool false, .string ⟨#[]⟩] 65)) w.heap.size (.string ⟨#[]⟩) (.bool false) (.string ⟨#[]⟩)) := Three.new w _ _ _ _
  have KB0 : Hid (Below w.heap.size w (w.alloc (.cells #[.string ⟨#[]⟩, .bool false, .string ⟨#[]⟩] 65))) := (Below.refl _ _).alloc (Nat.le_refl _) _
  go_enter Tryz.func106, Tryz.ntmps106
  go_wp2_with fail
  refine (HCC.out _).mono ?_
  rintro e w1 ⟨rfl, hb1⟩
  have T1 : Hid (Three w1 w.heap.size (.string ⟨#[]⟩) (.bool false) (.string ⟨#[]⟩)) := T0.out.keep hb1
  have KB1 : Hid (Below w.heap.size w w1) := KB0.out.trans (hb1.mono KB0.out.size)
  clear hb1 T0 KB0 HCC
  go_wp2_with fail
  refine (implIsWord_set s w1 (HS.out.below KB1.out)).mono ?_
  rintro e w2 ⟨rfl, hb2⟩
  have T2 : Three w2 w.heap.size (.string ⟨#[]⟩) (.bool false) (.string ⟨#[]⟩) := T1.out.keep hb2
  have KB2 : Hid (Below w.heap.size w w2) := KB1.out.trans (hb2.mono KB1.out.size)
  clear hb2 T1 KB1 HS
  obtain ⟨c0, c1, c2, f0, f1, f2⟩ := T2
  cases hw : wordS s
  · have HR : Hid (readR s = none) := RR.out.1 hw
    clear RR hw
    obtain ⟨r0, r1, r2⟩ := three_set (v0 := .string ⟨#[]⟩) (v1 := .bool false) (v2 := .string ⟨#[]⟩) c0 c1 c2
    go_wp2_with fail
    exact bodyPost_ret (v := .tuple #[.agg #[.string ⟨#[]⟩, .bool false, .string ⟨#[]⟩], .int .i64 5]) (by simp [results, Tryz.results106, go_sem, r0, r1, r2]) rfl ⟨ItemOfRes.no _ _ _ HR.out, ((KB2.out.setCell (Nat.le_refl _) _).setCell (Nat.le_refl _) _).setCell (Nat.le_refl _) _⟩
  · have HR : Hid (readR s = some ⟨s, false, ⟨#[]⟩⟩) := RR.out.2 hw
    have T2 : Hid (Three w2 w.heap.size (.string ⟨#[]⟩) (.bool false) (.string ⟨#[]⟩)) := ⟨c0, c1, c2, f0, f1, f2⟩
    clear RR hw c0 c1 c2 f0 f1 f2
    go_wp2_with fail
    refine (clone_text s w2 (by omega)).mono ?_
    rintro e w3 ⟨rfl, hb3⟩
    have T3 : Three w3 w.heap.size (.string ⟨#[]⟩) (.bool false) (.string ⟨#[]⟩) := T2.out.keep hb3
    have KB3 : Hid (Below w.heap.size w w3) := KB2.out.trans (hb3.mono KB2.out.size)
    have hlt := T3.lt
    obtain ⟨r0, r1, r2⟩ := three_set (v0 := .string s) (v1 := .bool false) (v2 := .string ⟨#[]⟩) T3.c0 T3.c1 T3.c2
    have r0 := f_keepA (.cells #[.string s, .bool false, .string ⟨#[]⟩] 65) r0
    have r1 := f_keepA (.cells #[.string s, .bool false, .string ⟨#[]⟩] 65) r1
    have r2 := f_keepA (.cells #[.string s, .bool false, .string ⟨#[]⟩] 65) r2
    obtain ⟨c0, c1, c2, f0, f1, f2⟩ := T3
    clear hb3 T2 KB2
    go_wp2_with fail
    exact bodyPost_ret (v := .tuple #[.agg #[.string s, .bool false, .string ⟨#[]⟩], .int .i64 0]) (by simp [results, Tryz.results106, go_sem, r0, r1, r2]) rfl ⟨ItemOfRes.yes HR.out, put_alloc KB3.out _ _ _ _⟩
end Go.Proofs.YtgfbahjpaaanoaaGreatDoor
/-
  What itemOf answers where there is a sign of equality; at every piece.
-/
namespace Go.Proofs.YtgfbahjpaaanoaaGreatDoor
open Go.ChangeShapes Go.WideShapes Go.ChangeAt Go.RowKit
theorem ext_size (s : ByteArray) (i j : Nat) (hs : s.size ≤ 1000) : (s.extract i j).size ≤ 1000 := by simp; omega
theorem put4 {w w3 : World} {B : Nat} (h : Below w.heap.size w w3) (hB : w.heap.size ≤ B) (u a b c : Value) : Below w.heap.size w ((((w3.setCell ⟨B, 2, none⟩ u).setCell ⟨w.heap.size, 0, none⟩ a).setCell ⟨w.heap.size, 1, none⟩ b).setCell ⟨w.heap.size, 2, none⟩ c) :=
  (((h.setCell (p := ⟨B, 2, none⟩) hB u).setCell (p := ⟨w.heap.size, 0, none⟩) (Nat.le_refl _) a).setCell (p := ⟨w.heap.size, 1, none⟩) (Nat.le_refl _) b).setCell (p := ⟨w.heap.size, 2, none⟩) (Nat.le_refl _) c
set_option maxRecDepth 100000 in
set_option maxHeartbeats 8000000 in
theorem itemOf_has (s : ByteArray) (w : World) (hset : SetIs w) (hs : s.size ≤ 1000) (h : eqAt s.data.toList < s.size) :
    Calls Tryz.prog 106 #[.string s] w fun e w' => ItemOfRes s e ∧ Below w.heap.size w w' := by
  have hne : eqAt s.data.toList ≠ s.size := by omega
  have R1 := @read_noname s
  have R3 := fun a => @read_word s a hne
  have R4 := fun a => @read_quote s a hne
  have R5 := fun a => @read_bad s a hne
  have HC := fun w => cutS_of s w _ _ _ (cut_yes s w hs h)
  have hnz := ext_size s 0 (eqAt s.data.toList) hs
  have hrz := ext_size s (eqAt s.data.toList + 1) s.size hs
  generalize s.extract 0 (eqAt s.data.toList) = nm at *
  generalize s.extract (eqAt s.data.toList + 1) s.size = rs at *
  have RR : Hid ((wordS nm = false → readR s = none) ∧ (wordS nm = true → wordS rs = true → readR s = some ⟨nm, true, rs⟩) ∧ (wordS nm = true → wordS rs = false → unqB rs = true → readR s = some ⟨nm, true, unqS rs⟩) ∧ (wordS nm = true → wordS rs = false → unqB rs = false → readR s = none)) := ⟨R1, R3, R4, R5⟩
  have HCC : Hid (∀ w, Calls Tryz.prog 129 #[.string s, .string ⟨#[61]⟩] w fun e w' => e = .returned (.tuple #[.string nm, .string rs, .bool true]) ∧ Below w.heap.size w w') := HC
  have HS : Hid (SetIs w) := hset
  clear R1 R3 R4 R5 HC hset h hne
  have T0 : Hid (Three (w.alloc (.cells #[.string ⟨#[]⟩, .bool false, .string ⟨#[]⟩] 65)) w.heap.size (.string ⟨#[]⟩) (.bool false) (.string ⟨#[]⟩)) := Three.new w _ _ _ _
  have KB0 : Hid (Below w.heap.size w (w.alloc (.cells #[.string ⟨#[]⟩, .bool false, .string ⟨#[]⟩] 65))) := (Below.refl _ _).alloc (Nat.le_refl _) _
  go_enter Tryz.func106, Tryz.ntmps106
  go_wp2_with fail
  refine (HCC.out _).mono ?_
  rintro e w1 ⟨rfl, hb1⟩
  have T1 : Hid (Three w1 w.heap.size (.string ⟨#[]⟩) (.bool false) (.string ⟨#[]⟩)) := T0.out.keep hb1
  have KB1 : Hid (Below w.heap.size w w1) := KB0.out.trans (hb1.mono KB0.out.size)
  clear hb1 T0 KB0 HCC
  go_wp2_with fail
  refine (implIsWord_set nm w1 (HS.out.below KB1.out)).mono ?_
  rintro e w2 ⟨rfl, hb2⟩
  have T2 : Hid (Three w2 w.heap.size (.string ⟨#[]⟩) (.bool false) (.string ⟨#[]⟩)) := T1.out.keep hb2
  have KB2 : Hid (Below w.heap.size w w2) := KB1.out.trans (hb2.mono KB1.out.size)
  clear hb2 T1 KB1
  cases hw : wordS nm
  · have HR : Hid (readR s = none) := RR.out.1 hw
    clear RR hw HS
    obtain ⟨c0, c1, c2, f0, f1, f2⟩ := T2.out
    obtain ⟨r0, r1, r2⟩ := three_set (v0 := .string ⟨#[]⟩) (v1 := .bool false) (v2 := .string ⟨#[]⟩) c0 c1 c2
    go_wp2_with fail
    exact bodyPost_ret (v := .tuple #[.agg #[.string ⟨#[]⟩, .bool false, .string ⟨#[]⟩], .int .i64 5]) (by simp [results, Tryz.results106, go_sem, r0, r1, r2]) rfl ⟨ItemOfRes.no _ _ _ HR.out, ((KB2.out.setCell (Nat.le_refl _) _).setCell (Nat.le_refl _) _).setCell (Nat.le_refl _) _⟩
  have R2 : Hid ((wordS rs = true → readR s = some ⟨nm, true, rs⟩) ∧ (wordS rs = false → unqB rs = true → readR s = some ⟨nm, true, unqS rs⟩) ∧ (wordS rs = false → unqB rs = false → readR s = none)) := ⟨RR.out.2.1 hw, RR.out.2.2.1 hw, RR.out.2.2.2 hw⟩
  clear RR hw
  go_wp2_with fail
  refine (clone_text nm w2 (by omega)).mono ?_
  rintro e w3 ⟨rfl, hb3⟩
  have T3 : Hid (Three w3 w.heap.size (.string ⟨#[]⟩) (.bool false) (.string ⟨#[]⟩)) := T2.out.keep hb3
  have KB3 : Hid (Below w.heap.size w w3) := KB2.out.trans (hb3.mono KB2.out.size)
  have S4 : Hid (SetIs (w3.alloc (.cells #[.string nm, .bool true, .string ⟨#[]⟩] 65))) := (HS.out.below KB3.out).below ((Below.refl _ _).alloc (Nat.le_refl _) _)
  have T4 : Hid (Three (w3.alloc (.cells #[.string nm, .bool true, .string ⟨#[]⟩] 65)) w.heap.size (.string ⟨#[]⟩) (.bool false) (.string ⟨#[]⟩)) := T3.out.alloc _
  have U4 : Hid (Three (w3.alloc (.cells #[.string nm, .bool true, .string ⟨#[]⟩] 65)) w3.heap.size (.string nm) (.bool true) (.string ⟨#[]⟩)) := Three.new w3 _ _ _ _
  have KB4 : Hid (Below w.heap.size w (w3.alloc (.cells #[.string nm, .bool true, .string ⟨#[]⟩] 65))) := KB3.out.alloc KB3.out.size _
  have hBB : w.heap.size < w3.heap.size := T3.out.lt
  clear hb3 T2 KB2 T3 KB3 HS
  go_wp2_with fail
  refine (implIsWord_set rs _ S4.out).mono ?_
  rintro e w5 ⟨rfl, hb5⟩
  have T5 : Hid (Three w5 w.heap.size (.string ⟨#[]⟩) (.bool false) (.string ⟨#[]⟩)) := T4.out.keep hb5
  have U5 : Hid (Three w5 w3.heap.size (.string nm) (.bool true) (.string ⟨#[]⟩)) := U4.out.keep hb5
  have KB5 : Hid (Below w.heap.size w w5) := KB4.out.trans (hb5.mono KB4.out.size)
  clear hb5 T4 U4 KB4 S4
  generalize w3.heap.size = B1 at *
  clear w3
  have hBn : w.heap.size ≠ B1 := by omega
  cases hv : wordS rs
  · have R3 : Hid ((unqB rs = true → readR s = some ⟨nm, true, unqS rs⟩) ∧ (unqB rs = false → readR s = none)) := ⟨R2.out.2.1 hv, R2.out.2.2 hv⟩
    clear R2 hv
    cases hu : unqB rs
    · have HR : Hid (readR s = none) := R3.out.2 hu
      have HU : Hid (Calls Tryz.prog 130 #[.string rs] w5 fun e w' => e = .returned (.agg #[.int .i64 5, .string ⟨#[]⟩]) ∧ Below w5.heap.size w5 w') := implUnquote_bad rs w5 (by omega) hu
      clear R3 hu
      go_wp2_with fail
      refine HU.out.mono ?_
      rintro e w6 ⟨rfl, hb6⟩
      have T6 := T5.out.keep hb6
      have KB6 : Hid (Below w.heap.size w w6) := KB5.out.trans (hb6.mono KB5.out.size)
      have hl6 := T6.lt
      obtain ⟨r0, r1, r2⟩ := three_set (v0 := .string ⟨#[]⟩) (v1 := .bool false) (v2 := .string ⟨#[]⟩) T6.c0 T6.c1 T6.c2
      have r0 := f_keepA (.cells #[.int .i64 5, .string ⟨#[]⟩] 98) r0
      have r1 := f_keepA (.cells #[.int .i64 5, .string ⟨#[]⟩] 98) r1
      have r2 := f_keepA (.cells #[.int .i64 5, .string ⟨#[]⟩] 98) r2
      obtain ⟨c0, c1, c2, f0, f1, f2⟩ := T6
      clear hb6 HU T5 U5 KB5
      go_wp2_with fail
      exact bodyPost_ret (v := .tuple #[.agg #[.string ⟨#[]⟩, .bool false, .string ⟨#[]⟩], .int .i64 5]) (by simp [results, Tryz.results106, go_sem, r0, r1, r2]) rfl ⟨ItemOfRes.no _ _ _ HR.out, put_alloc KB6.out _ _ _ _⟩
    · have HR : Hid (readR s = some ⟨nm, true, unqS rs⟩) := R3.out.1 hu
      have HU : Hid (Calls Tryz.prog 130 #[.string rs] w5 fun e w' => e = .returned (.agg #[.int .i64 0, .string (unqS rs)]) ∧ Below w5.heap.size w5 w') := implUnquote_any rs w5 (by omega) hu
      clear R3 hu
      generalize unqS rs = uv at *
      go_wp2_with fail
      refine HU.out.mono ?_
      rintro e w6 ⟨rfl, hb6⟩
      have T6 := T5.out.keep hb6
      have U6 := U5.out.keep hb6
      have KB6 : Hid (Below w.heap.size w w6) := KB5.out.trans (hb6.mono KB5.out.size)
      have hl6 := T6.lt
      have hm6 := U6.lt
      obtain ⟨x0, x1, x2, y0, y1, y2, z0, z1, z2⟩ := item_put (v := .string uv) hBn T6.c0 T6.c1 T6.c2 T6.f0 T6.f1 T6.f2 U6.c0 U6.c1 U6.c2
      obtain ⟨r0, r1, r2⟩ := three_set (v0 := .string nm) (v1 := .bool true) (v2 := .string uv) y0 y1 y2
      have r0 := f_keepA (.cells #[.int .i64 0, .string uv] 98) r0
      have r1 := f_keepA (.cells #[.int .i64 0, .string uv] 98) r1
      have r2 := f_keepA (.cells #[.int .i64 0, .string uv] 98) r2
      obtain ⟨c0, c1, c2, f0, f1, f2⟩ := T6
      obtain ⟨d0, d1, d2, g0, g1, g2⟩ := U6
      have hkb := put4 KB6.out (by omega : w.heap.size ≤ B1) (.string uv) (.string nm) (.bool true) (.string uv)
      have HKB : Hid (Below w.heap.size w (((((w6.setCell ⟨B1, 2, none⟩ (.string uv)).setCell ⟨w.heap.size, 0, none⟩ (.string nm)).setCell ⟨w.heap.size, 1, none⟩ (.bool true)).setCell ⟨w.heap.size, 2, none⟩ (.string uv)).alloc (.cells #[.int .i64 0, .string uv] 98))) := hkb.alloc hkb.size _
      clear hb6 HU T5 U5 KB5 hkb
      go_wp2_with fail
      exact bodyPost_ret (v := .tuple #[.agg #[.string nm, .bool true, .string uv], .int .i64 0]) (by simp [results, Tryz.results106, go_sem, r0, r1, r2]) rfl ⟨ItemOfRes.yes HR.out, HKB.out⟩
  · have HR : Hid (readR s = some ⟨nm, true, rs⟩) := R2.out.1 hv
    clear R2 hv
    go_wp2_with fail
    refine (clone_text rs w5 (by omega)).mono ?_
    rintro e w6 ⟨rfl, hb6⟩
    have T6 := T5.out.keep hb6
    have U6 := U5.out.keep hb6
    have KB6 : Hid (Below w.heap.size w w6) := KB5.out.trans (hb6.mono KB5.out.size)
    obtain ⟨x0, x1, x2, y0, y1, y2, z0, z1, z2⟩ := item_put (v := .string rs) hBn T6.c0 T6.c1 T6.c2 T6.f0 T6.f1 T6.f2 U6.c0 U6.c1 U6.c2
    obtain ⟨r0, r1, r2⟩ := three_set (v0 := .string nm) (v1 := .bool true) (v2 := .string rs) y0 y1 y2
    obtain ⟨c0, c1, c2, f0, f1, f2⟩ := T6
    obtain ⟨d0, d1, d2, g0, g1, g2⟩ := U6
    have HKB : Hid (Below w.heap.size w ((((w6.setCell ⟨B1, 2, none⟩ (.string rs)).setCell ⟨w.heap.size, 0, none⟩ (.string nm)).setCell ⟨w.heap.size, 1, none⟩ (.bool true)).setCell ⟨w.heap.size, 2, none⟩ (.string rs))) := put4 KB6.out (by omega : w.heap.size ≤ B1) _ _ _ _
    clear hb6 T5 U5 KB5
    go_wp2_with fail
    exact bodyPost_ret (v := .tuple #[.agg #[.string nm, .bool true, .string rs], .int .i64 0]) (by simp [results, Tryz.results106, go_sem, r0, r1, r2]) rfl ⟨ItemOfRes.yes HR.out, HKB.out⟩
theorem itemOf_any (s : ByteArray) (w : World) (hset : SetIs w) (hs : s.size ≤ 1000) :
    Calls Tryz.prog 106 #[.string s] w fun e w' => ItemOfRes s e ∧ Below w.heap.size w w' := by
  by_cases h : eqAt s.data.toList < s.size
  · exact itemOf_has s w hset hs h
  · exact itemOf_bare s w hset hs h
end Go.Proofs.YtgfbahjpaaanoaaGreatDoor
/-
  What the teller of itemsOf does, for every loop body.
-/
namespace Go.Proofs.YtgfbahjpaaanoaaGreatDoor
open Go.ChangeShapes Go.WideShapes Go.ChangeAt Go.RowKit Go.Shelf
attribute [local go_sem] Oper.semAt_some
theorem ascii_set {l : List UInt8} (h : (l.all fun b => decide (b.toNat < 128)) = true) : ∀ (j : Nat) b, l[j]? = some b → b.toNat < 128 := fun _ b hb => by
  have := List.all_eq_true.1 h b (List.mem_of_getElem? hb)
  simpa using this
theorem trim_lib2 (s : ByteArray) (w : World) (hs : s.size ≤ 1000) :
    Calls Tryz.prog 74 #[.string s, .string ⟨#[32, 9]⟩] w fun e w' => e = .returned (.string (trimT s)) ∧ Below w.heap.size w w' :=
  Any.strings_Trim_laid Tryz.lays160 (by kernel_rfl) s ⟨#[32, 9]⟩ w (by omega) (by decide) (ascii_set (by decide))
theorem setIs_belowN {w w' : World} {n : Nat} (h : SetIs w) (hb : Below n w w') (hn : 0 < n) : SetIs w' := by
  obtain ⟨cs, tt, fr, hg, h1, h2⟩ := h
  exact ⟨cs, tt, fr, by rw [hb.block 0 hn, hg], h1, h2⟩
def encX (x : Rec × Int) : Array Value := #[.agg #[.string x.1.name, .bool x.1.has, .string x.1.value], .int .i64 x.2]
/-- What a round that goes on keeps. -/
def KeepT (n₀ Bt : Nat) (s : ByteArray) (W W' : World) : Prop := Below n₀ W W' ∧ (W.cell? ⟨Bt, 0, none⟩ = some (.string s) → W'.cell? ⟨Bt, 0, none⟩ = some (.string s))
theorem grown_of {W W' : World} (h : Below W.heap.size W W') : W.grownBy W' none := ⟨h.os, h.tape, h.output, h.size, fun k hk _ => h.block k hk⟩
set_option maxRecDepth 100000 in
set_option maxHeartbeats 8000000 in
theorem tell_in (n : Nat) (hn : 1 ≤ n) (l Bt n₀ : Nat) (s : ByteArray) (hs : s.size ≤ 1000) (hG : 0 < n₀) (J Jx : List (Rec × Int) → World → Prop)
    (hJ : ∀ pre W W', J pre W → W.grownBy W' none → J pre W')
    (hY : ∀ pre x W, J pre W → pre.length < 1002 → YieldAt Fence.wide (n - 1) Tryz.prog l (encX x) W fun e W' =>
      (e = .returned (.bool true) ∧ J (pre ++ [x]) W' ∧ KeepT n₀ Bt s W W') ∨ (e = .returned (.bool false) ∧ Jx (pre ++ [x]) W'))
    (W : World) (hc : W.cell? ⟨Bt, 0, none⟩ = some (.string s)) (hset : SetIs W) (h0 : J [] W) :
    CallsIn Fence.wide n Tryz.prog 104 #[.func (.yield l) #[] #[], .pointer (some ⟨Bt, 0, none⟩)] W fun e W' => (∃ v, e = .returned v) ∧
      ((∃ ys, AllTell (trims (pcs false [] s.data.toList)) ys ∧ J ys W') ∨ (∃ pre, (∃ d, d <+: trims (pcs false [] s.data.toList) ∧ AllTell d pre) ∧ Jx pre W')) := by
  have hT := (pcs_small s.data.toList.length s.data.toList false [] (Nat.le_refl _)).2
  rw [size_list] at hT
  have hTl := trims_len (pcs false [] s.data.toList)
  have HY : Hid (∀ pre x W, J pre W → pre.length < 1002 → YieldAt Fence.wide (n - 1) Tryz.prog l (encX x) W fun e W' =>
      (e = .returned (.bool true) ∧ J (pre ++ [x]) W' ∧ KeepT n₀ Bt s W W') ∨ (e = .returned (.bool false) ∧ Jx (pre ++ [x]) W')) := hY
  have HJ : Hid (∀ pre W W', J pre W → W.grownBy W' none → J pre W') := hJ
  clear hY hJ
  refine callsIn_of_wp Tryz.func104 rfl trivial ?_ rfl
  simp only [Tryz.ntmps104, List.size_toArray, List.length_cons, List.length_nil, Nat.reduceAdd, Nat.reduceSub, Array.replicate_succ, Array.replicate_zero, List.push_toArray, List.append_toArray, List.nil_append, List.cons_append]
  gi_wp2
  gi_loopw [3] (fun b wr => ∃ (k : Nat) (done : List ByteArray) (pre : List (Rec × Int)), b = .int .i64 k ∧ k ≤ s.size + 1 ∧ TellAt s done k ∧ AllTell done pre ∧ J pre wr ∧ wr.cell? ⟨Bt, 0, none⟩ = some (.string s) ∧ SetIs wr ∧ done.length ≤ (trims (pcs false [] s.data.toList)).length) (fun b _ => s.size + 1 - (intOf b).toNat)
  case atStart => exact ⟨0, [], [], rfl, Nat.zero_le _, .inl ⟨Nat.zero_le _, rfl⟩, trivial, h0, hc, hset, Nat.zero_le _⟩
  case round =>
    obtain ⟨k, done, pre, rfl, hk, hta, htl, hJs, hcs, hsets, hdl⟩ := hrel
    have HA : Hid (TellAt s done k) := hta
    have HL : Hid (AllTell done pre) := htl
    have HS : Hid (SetIs wr) := hsets
    have HJs : Hid (J pre wr) := hJs
    clear hta htl hsets hJs hc hset h0
    by_cases hlt : k < s.size
    · have g : (k : Int) < s.size := by omega
      have hpe : pEnd s.data.toList k ≤ s.size ∧ k ≤ pEnd s.data.toList k := by
        have hp := peS_le _ (s.data.toList.drop k) false (Nat.le_refl _)
        rw [List.length_drop, size_list] at hp
        unfold pEnd; omega
      have HX : Hid (s.extract k (pEnd s.data.toList k) = mkB ((s.data.toList.drop k).take (pEnd s.data.toList k - k))) := ext_mk _ _ _
      have hxz := ext_size s k (pEnd s.data.toList k) hs
      have A1 := HA.out.skip hlt
      have A2 := HA.out.take hlt
      have PE := pieceEnd_any s k wr hs hlt
      rw [← HX.out] at A1 A2
      generalize pEnd s.data.toList k = q at *
      have TR := fun w => trim_lib2 (s.extract k q) w hxz
      have htz : (trimT (s.extract k q)).size ≤ 1000 := Nat.le_trans (trim_le _) hxz
      generalize trimT (s.extract k q) = t at *
      have HPE : Hid (Calls Tryz.prog 105 #[.string s, .int .i64 k] wr fun e w' => e = .returned (.int .i64 (q : Int)) ∧ w' = wr) := PE
      have HTR : Hid (∀ w, Calls Tryz.prog 74 #[.string (s.extract k q), .string ⟨#[32, 9]⟩] w fun e w' => e = .returned (.string t) ∧ Below w.heap.size w w') := TR
      have gq0 : (0 : Int) ≤ k := by omega
      have gq1 : (k : Int) ≤ q := by omega
      have gq2 : (q : Int) ≤ s.size := by omega
      clear PE TR HX HA
      by_cases ht0 : t.size = 0
      · have HA1 : Hid (TellAt s done (q + 1)) := A1 ht0
        have ht := str_nil ht0
        subst ht
        clear A1 A2 ht0
        gi_wp2_with (first
          | (refine ⟨trivial, ?_⟩; gi_at_call 105; refine (callsIn_wide.2 HPE.out).mono ?_; rintro e w1 ⟨rfl, rfl⟩)
          | (refine ⟨trivial, ?_⟩; gi_at_call 74; refine (callsIn_wide.2 (HTR.out _)).mono ?_; rintro e w2 ⟨rfl, hb2⟩))
        refine ⟨trivial, ?_⟩
        gi_wp2
        refine ⟨fun _ h => (by cases h), ?_⟩
        gi_wp2
        go_roundw
        case rel => exact ⟨q + 1, done, pre, by go_num, by omega, HA1.out, HL.out, HJ.out _ _ _ HJs.out (grown_of hb2), f_keep hb2 hcs, HS.out.below hb2, hdl⟩
        case measure => simp [intOf]; omega
      · obtain ⟨ha2, hpre⟩ := A2 ht0
        have HA2 : Hid (TellAt s (done ++ [t]) (q + 1)) := ha2
        have HPF : Hid ((done ++ [t]) <+: trims (pcs false [] s.data.toList)) := hpre
        have hte := str_some ht0
        have hpl : pre.length < 1002 := by
          have h1 := tells_len HL.out
          omega
        clear A1 A2 ht0 ha2 hpre
        gi_wp2_with (first
          | (refine ⟨trivial, ?_⟩; gi_at_call 105; refine (callsIn_wide.2 HPE.out).mono ?_; rintro e w1 ⟨rfl, rfl⟩)
          | (refine ⟨trivial, ?_⟩; gi_at_call 74; refine (callsIn_wide.2 (HTR.out _)).mono ?_; rintro e w2 ⟨rfl, hb2⟩)
          | (refine ⟨trivial, ?_⟩; gi_at_call 106; refine (callsIn_wide.2 (itemOf_any t _ (HS.out.below hb2) htz)).mono ?_; rintro e w3 ⟨⟨⟨rn, rh, rv⟩, rc, rfl, hres⟩, hb3⟩; have hJ3 := HJ.out _ _ _ (HJ.out _ _ _ HJs.out (grown_of hb2)) (grown_of hb3); obtain ⟨fn, tmps, assign, body, hy, hR⟩ := HY.out pre (⟨rn, rh, rv⟩, rc) w3 hJ3 hpl; dsimp only [encX] at hy))
        refine hR.mono ?_
        rintro e W3 (⟨rfl, hJ4, hk4⟩ | ⟨rfl, hJx4⟩)
        · have hc4 := hk4.2 (f_keep hb3 (f_keep hb2 hcs))
          have hs4 : SetIs W3 := setIs_belowN ((HS.out.below hb2).below hb3) hk4.1 hG
          have htell : Tells t (⟨rn, rh, rv⟩, rc) := hres
          have HFIN : Hid (AllTell (done ++ [t]) (pre ++ [(⟨rn, rh, rv⟩, rc)]) ∧ J (pre ++ [(⟨rn, rh, rv⟩, rc)]) W3 ∧ W3.cell? ⟨Bt, 0, none⟩ = some (.string s) ∧ SetIs W3 ∧ (done ++ [t]).length ≤ (trims (pcs false [] s.data.toList)).length) := ⟨tells_snoc HL.out htell, hJ4, hc4, hs4, HPF.out.length_le⟩
          clear hc4 hs4 htell hJ4 hk4 hy hR hJ3
          gi_wp2
          go_roundw
          case rel => exact ⟨q + 1, done ++ [t], pre ++ [(⟨rn, rh, rv⟩, rc)], by go_num, by omega, HA2.out, HFIN.out.1, HFIN.out.2.1, HFIN.out.2.2.1, HFIN.out.2.2.2.1, HFIN.out.2.2.2.2⟩
          case measure => simp [intOf]; omega
        · have htell : Tells t (⟨rn, rh, rv⟩, rc) := hres
          have HFIN : Hid (AllTell (done ++ [t]) (pre ++ [(⟨rn, rh, rv⟩, rc)])) := tells_snoc HL.out htell
          gi_wp2
          refine bodyPost_ret (results_none rfl _ _ _) rfl ?_
          exact ⟨⟨_, rfl⟩, .inr ⟨pre ++ [(⟨rn, rh, rv⟩, rc)], ⟨done ++ [t], HPF.out, HFIN.out⟩, hJx4⟩⟩
    · have HT : Hid (trims (pcs false [] s.data.toList) = done) := HA.out.over hlt
      have g : ¬ (k : Int) < s.size := by omega
      clear HA HY HJ
      gi_wp2
      go_end0
      exact ⟨⟨_, rfl⟩, .inl ⟨pre, by rw [HT.out]; exact HL.out, HJs.out⟩⟩
end Go.Proofs.YtgfbahjpaaanoaaGreatDoor
/-
  What ParseItems answers.
-/
namespace Go.Proofs.YtgfbahjpaaanoaaGreatDoor
open Go.ChangeShapes Go.WideShapes Go.ChangeAt Go.RowKit Go.Shelf
attribute [local go_sem] Oper.semAt_some
set_option maxHeartbeats 1000000 in
theorem itemsOf_any (s : ByteArray) (w : World) :
    Calls Tryz.prog 77 #[.string s] w fun e w' => e = .returned (.func (.func 104) #[] #[.pointer (some ⟨w.heap.size, 0, none⟩)]) ∧ w' = w.alloc (.cells #[.string s] 9) := by
  go_enter Tryz.func77, Tryz.ntmps77
  go_wp2
  go_ret
  exact ⟨rfl, rfl⟩
theorem tell_stops (n : Nat) (hn : 1 ≤ n) (Bt n₀ : Nat) (s : ByteArray) (hs : s.size ≤ 1000) (hG : 0 < n₀) (w : World) (hBt : Bt < w.heap.size) (hc : w.cell? ⟨Bt, 0, none⟩ = some (.string s)) (hset : SetIs w) :
    SeqStopsK Fence.wide n Tryz.prog 104 #[.pointer (some ⟨Bt, 0, none⟩)] encX (KeepT n₀ Bt s) (fun ys => AllTell (trims (pcs false [] s.data.toList)) ys) (fun pre => ∃ d, d <+: trims (pcs false [] s.data.toList) ∧ AllTell d pre) 1002 w := fun l J Jx W hW hJ _ hY h0 =>
  tell_in n hn l Bt n₀ s hs hG J Jx (fun pre W1 W2 h hg => hJ pre W1 W2 none h hg (fun r e => by cases e)) hY W ((hW.cell (p := ⟨Bt, 0, none⟩) hBt).trans hc) (hset.below hW) h0
theorem keepT_t {n₀ Bt : Nat} {s : ByteArray} {A B C : World} (h : KeepT n₀ Bt s A B) (k : KeepT n₀ Bt s B C) : KeepT n₀ Bt s A C := ⟨h.1.trans k.1, fun x => k.2 (h.2 x)⟩
theorem keepT_b {n₀ Bt : Nat} {s : ByteArray} {w : World} (hn : n₀ ≤ w.heap.size) (W : World) (l : Nat) (o o' : Obj) (hl : w.heap.size ≤ l) (ho : W.heap[l]? = some o) (h1 : o.isCells = false) (h2 : o.isWalk = false) : KeepT n₀ Bt s W (W.putObj l o') := by
  refine ⟨belowK_b hn W l o o' hl ho h1 h2, fun hc => ?_⟩
  exact cell_kept hc (grownBy_putObj' W l o') (fun r e => by cases e; exact ⟨_, ho, h1⟩)
end Go.Proofs.YtgfbahjpaaanoaaGreatDoor
/-
  What the loop of ParseItems keeps between two rounds.
-/
namespace Go.Proofs.YtgfbahjpaaanoaaGreatDoor
open Go.ChangeShapes Go.WideShapes Go.ChangeAt Go.RowKit Go.Shelf
/-- Between two rounds: all that was told was an item, and they lie in the row. -/
structure PI (w : World) (pre : List (Rec × Int)) (W : World) : Prop where
  good : ∀ x ∈ pre, x.2 = 0
  row : ∃ v, W.cell? ⟨w.heap.size + 1, 0, none⟩ = some v ∧ OwnI W (w.heap.size + 3) v (pre.map (·.1))
  bf : W.frozen? ⟨w.heap.size + 1, 0, none⟩ = false
  c0 : W.cell? ⟨w.heap.size, 0, none⟩ = some (.int .i64 0)
  c1 : W.cell? ⟨w.heap.size, 1, none⟩ = some (.slice none 0 0)
  f0 : W.frozen? ⟨w.heap.size, 0, none⟩ = false
  f1 : W.frozen? ⟨w.heap.size, 1, none⟩ = false
  below : Below w.heap.size w W
  size : w.heap.size + 3 ≤ W.heap.size
/-- A round has left: the last that was told was none. -/
def PX (w : World) (c : Code) (pre : List (Rec × Int)) (W : World) : Prop := c = .ret ∧ (∃ pr x, pre = pr ++ [x] ∧ x.2 ≠ 0 ∧ W.cell? ⟨w.heap.size, 0, none⟩ = some (.int .i64 x.2) ∧ W.cell? ⟨w.heap.size, 1, none⟩ = some (.slice none 0 0)) ∧ Below w.heap.size w W
theorem ownI_apart {W : World} {base : Nat} {v : Value} {l : List Rec} (h : OwnI W base v l) {row : Option Nat} (hr : ∀ r, row = some r → ∃ o : Obj, W.heap[r]? = some o ∧ o.isCells = false) : v.ownBlock = none ∨ v.ownBlock ≠ row := by
  obtain ⟨_, h1 | ⟨g, c, cur, rfl, _, hh, _⟩⟩ := h
  · left; rw [h1.1]; rfl
  · right
    intro e
    obtain ⟨o, ho, hc⟩ := hr g e.symm
    rw [hh] at ho
    obtain rfl := Option.some.inj ho
    cases hc
theorem pi_grown {w W W' : World} {pre : List (Rec × Int)} {row : Option Nat} (h : PI w pre W) (hg : W.grownBy W' row) (hr : ∀ r, row = some r → w.heap.size + 3 ≤ r ∧ ∃ o : Obj, W.heap[r]? = some o ∧ o.isCells = false) : PI w pre W' := by
  have hr2 : ∀ r, row = some r → ∃ o : Obj, W.heap[r]? = some o ∧ o.isCells = false := fun r e => (hr r e).2
  obtain ⟨v, hv, ho⟩ := h.row
  exact { good := h.good, row := ⟨v, cell_kept hv hg hr2, World.ownsRow.kept ho hg (ownI_apart ho hr2)⟩, bf := (frozen_kept hv hg hr2).trans h.bf,
          c0 := cell_kept h.c0 hg hr2, c1 := cell_kept h.c1 hg hr2, f0 := (frozen_kept h.c0 hg hr2).trans h.f0, f1 := (frozen_kept h.c1 hg hr2).trans h.f1,
          below := h.below.grown hg (by have := h.size; omega) (fun k e => by have := (hr k e).1; omega), size := Nat.le_trans h.size hg.size }
theorem px_grown {w W W' : World} {c : Code} {pre : List (Rec × Int)} {row : Option Nat} (h : PX w c pre W) (hg : W.grownBy W' row) (hr : ∀ r, row = some r → w.heap.size + 3 ≤ r ∧ ∃ o : Obj, W.heap[r]? = some o ∧ o.isCells = false) : PX w c pre W' := by
  have hr2 : ∀ r, row = some r → ∃ o : Obj, W.heap[r]? = some o ∧ o.isCells = false := fun r e => (hr r e).2
  obtain ⟨h1, ⟨pr, x, e, hx, c0, c1⟩, hb⟩ := h
  exact ⟨h1, ⟨pr, x, e, hx, cell_kept c0 hg hr2, cell_kept c1 hg hr2⟩, hb.grown hg hb.size (fun k e => by have := (hr k e).1; omega)⟩
theorem pi_alloc {w W : World} {pre : List (Rec × Int)} (h : PI w pre W) (o : Obj) : PI w pre (W.alloc o) := pi_grown h (World.grownBy_alloc W o none) (fun r e => by cases e)
/-- The row has grown by one item, and its box holds it. -/
theorem pi_append {w W w1 : World} {pre : List (Rec × Int)} {r : Rec} {v v' : Value} {tmp : Obj} {s : ByteArray} (h : PI w pre W) (hv : W.cell? ⟨w.heap.size + 1, 0, none⟩ = some v) (ho : OwnI W (w.heap.size + 3) v (pre.map (·.1)))
    (ho' : OwnI w1 (w.heap.size + 3) v' (pre.map (·.1) ++ [r])) (hg : (W.alloc tmp).grownBy w1 v.ownBlock) :
    w1.cell? ⟨w.heap.size + 1, 0, none⟩ = some v ∧ w1.frozen? ⟨w.heap.size + 1, 0, none⟩ = false ∧ PI w (pre ++ [(r, 0)]) (w1.setCell ⟨w.heap.size + 1, 0, none⟩ v') ∧ KeepT w.heap.size (w.heap.size + 2) s W (w1.setCell ⟨w.heap.size + 1, 0, none⟩ v') ∧ KeepsFrom (w.heap.size + 3) W (w1.setCell ⟨w.heap.size + 1, 0, none⟩ v') := by
  have hA := pi_alloc h tmp
  have hge : ∀ q, v.ownBlock = some q → w.heap.size + 3 ≤ q := fun q hq => own_geI ho q hq
  have kc : ∀ (b o : Nat) (u : Value), b < w.heap.size + 3 → (W.alloc tmp).cell? ⟨b, o, none⟩ = some u → w1.cell? ⟨b, o, none⟩ = some u := fun b o u hb hu => hg.cell hu (fun e => by have := hge b e.symm; omega)
  have kf : ∀ (b o : Nat) (u : Value), b < w.heap.size + 3 → (W.alloc tmp).cell? ⟨b, o, none⟩ = some u → w1.frozen? ⟨b, o, none⟩ = (W.alloc tmp).frozen? ⟨b, o, none⟩ := fun b o u hb hu => World.frozen?_of_block (hg.block b (block_lt_of_cell hu) (fun e => by have := hge b e.symm; omega))
  have hvA : (W.alloc tmp).cell? ⟨w.heap.size + 1, 0, none⟩ = some v := f_keepA tmp hv
  have c1b := kc (w.heap.size + 1) 0 v (by omega) hvA
  have f1b := (kf (w.heap.size + 1) 0 v (by omega) hvA).trans hA.bf
  have ne : ∀ (b o : Nat), b ≠ w.heap.size + 1 → (⟨w.heap.size + 1, 0, none⟩ : Addr) ≠ ⟨b, o, none⟩ := fun b o hb e => hb (congrArg Addr.block e).symm
  have hz : w.heap.size + 3 ≤ (W.alloc tmp).heap.size := hA.size
  have bw : Below w.heap.size w w1 := hA.below.grown hg (by omega) (fun q hq => by have := hge q hq; omega)
  have bW : Below w.heap.size W w1 := ((Below.refl _ W).alloc (by have := h.size; omega) tmp).grown hg (by omega) (fun q hq => by have := hge q hq; omega)
  refine ⟨c1b, f1b, ?_, ⟨bW.setCell (p := ⟨w.heap.size + 1, 0, none⟩) (Nat.le_succ _) _, fun hc => ?_⟩, ?_⟩
  · refine { good := fun x hx => ?_, row := ⟨v', World.cell?_setCell_same _ _ _ c1b, ?_⟩, bf := by rw [World.frozen?_setCell]; exact f1b, c0 := ?_, c1 := ?_, f0 := ?_, f1 := ?_, below := bw.setCell (p := ⟨w.heap.size + 1, 0, none⟩) (Nat.le_succ _) _, size := ?_ }
    · rcases List.mem_append.1 hx with hx | hx
      · exact h.good x hx
      · simp at hx; rw [hx]
    · rw [List.map_append]
      refine World.ownsRow.kept ho' (grownBy_setCell' w1 (w.heap.size + 1) v') ?_
      cases hb : v'.ownBlock with
      | none => exact .inl rfl
      | some q => exact .inr (fun e => by have := own_geI ho' q hb; have := Option.some.inj e; omega)
    · rw [World.cell?_setCell_other _ _ _ _ (ne _ _ (by omega))]; exact kc _ _ _ (by omega) hA.c0
    · rw [World.cell?_setCell_other _ _ _ _ (ne _ _ (by omega))]; exact kc _ _ _ (by omega) hA.c1
    · rw [World.frozen?_setCell]; exact (kf _ _ _ (by omega) hA.c0).trans hA.f0
    · rw [World.frozen?_setCell]; exact (kf _ _ _ (by omega) hA.c1).trans hA.f1
    · have := hg.size
      simp at this ⊢
      have := h.size
      omega
  · rw [World.cell?_setCell_other _ _ _ _ (ne _ _ (by omega))]
    exact kc _ _ _ (by omega) (f_keepA tmp hc)
  · refine (((KeepsOthers.alloc W tmp).trans (KeepsOthers.of_grownBy hg fun j o ej hj => ?_)).trans (KeepsOthers.setCell _ _ _)).from _
    obtain ⟨_, hn | ⟨g, c, cur, rfl, _, hh, _⟩⟩ := World.ownsRow.alloc ho tmp
    · rw [hn.1] at ej; cases ej
    · simp only [Value.ownBlock, Option.some.injEq] at ej
      subst ej
      rw [hh] at hj
      obtain rfl := Option.some.inj hj
      rfl
end Go.Proofs.YtgfbahjpaaanoaaGreatDoor
/-
  What ParseItems answers: the loop.
-/
namespace Go.Proofs.YtgfbahjpaaanoaaGreatDoor
open Go.ChangeShapes Go.WideShapes Go.ChangeAt Go.RowKit Go.Shelf
attribute [local go_sem] Oper.semAt_some
def ParseOut (s : ByteArray) (base : Nat) (e : Ending) (w : World) : Prop := ∃ v, e = .returned (.agg #[.int .i64 (parseC s), v]) ∧ OwnI w base v (parseL s)
theorem ParseOut.mk {s : ByteArray} {base : Nat} {w : World} {v : Value} {c : Int} {L : List Rec} (h : parseC s = c ∧ parseL s = L) (ho : OwnI w base v L) : ParseOut s base (.returned (.agg #[.int .i64 c, v])) w := ⟨v, by rw [h.1], by rw [h.2]; exact ho⟩
theorem own_set {W : World} {base b o : Nat} {v u : Value} {l : List Rec} (h : OwnI W base v l) (hb : b < base) : OwnI (W.setCell ⟨b, o, none⟩ u) base v l := by
  obtain ⟨h1, h2⟩ := h
  refine ⟨h1, ?_⟩
  rcases h2 with h2 | ⟨g, c, cur, e, hg, hh, hrest⟩
  · exact .inl h2
  · exact .inr ⟨g, c, cur, e, hg, by rw [Below.heap_setCell _ _ _ g (fun e => by simp only at e; omega)]; exact hh, hrest⟩
/-- Behind the loop, at the function's end: what its result's room holds. -/
theorem parse_end {w W2 : World} {D : Nat} {c : Int} {v : Value} {s : ByteArray} {L : List Rec} (hD : w.heap.size + 3 ≤ D) (hK : W2.heap[D]? = some (.deferred (some []))) (q0 : W2.cell? ⟨w.heap.size, 0, none⟩ = some (.int .i64 c)) (q1 : W2.cell? ⟨w.heap.size, 1, none⟩ = some v)
    (hb : Below w.heap.size w W2) (ho : OwnI W2 (w.heap.size + 3) v L) (hY : parseC s = c ∧ parseL s = L) :
    (W2.putObj D (.deferred none)).cell? ⟨w.heap.size, 0, none⟩ = some (.int .i64 c) ∧ (W2.putObj D (.deferred none)).cell? ⟨w.heap.size, 1, none⟩ = some v ∧ ParseOut s w.heap.size (.returned (.agg #[.int .i64 c, v])) (W2.putObj D (.deferred none)) ∧ Below w.heap.size w (W2.putObj D (.deferred none)) := by
  have hr : ∀ r, some D = some r → ∃ o : Obj, W2.heap[r]? = some o ∧ o.isCells = false := fun r e => by cases e; exact ⟨_, hK, rfl⟩
  refine ⟨cell_kept q0 (grownBy_putObj' W2 D _) hr, cell_kept q1 (grownBy_putObj' W2 D _) hr, ParseOut.mk hY ?_, hb.trans (belowK_b (w := w) (Nat.le_refl _) W2 D _ _ (by omega) hK rfl rfl)⟩
  have h1 : OwnI (W2.putObj D (.deferred none)) (w.heap.size + 3) v L := ownsRow_putObj ho _ hK rfl
  exact h1.lower (by omega)
theorem cell_one (X : World) (v : Value) (t : TypeId) : (X.alloc (.cells #[v] t)).cell? ⟨X.heap.size, 0, none⟩ = some v := by simp
theorem fr_keepA {W : World} {p : Addr} {v : Value} (o : Obj) (h : W.cell? p = some v) : (W.alloc o).frozen? p = W.frozen? p := ((Below.refl _ W).alloc (Nat.le_refl _) o).frozen (block_lt_of_cell h)
theorem cells3_new (w : World) (a b c : Value) (t : TypeId) : ∀ (j : Nat) u, ([a, b, c] : List Value)[j]? = some u → (w.alloc (.cells #[a, b, c] t)).cell? ((⟨w.heap.size, 0, none⟩ : Addr).add j) = some u := by
  intro j u hj
  match j, hj with
  | 0, hj => simp at hj; subst hj; simp [Addr.add]
  | 1, hj => simp at hj; subst hj; simp [Addr.add]
  | 2, hj => simp at hj; subst hj; simp [Addr.add]
theorem recsW_snoc (l : List Rec) (n : ByteArray) (h : Bool) (v : ByteArray) : recsW (l ++ [⟨n, h, v⟩]) = recsW l ++ [.string n, .bool h, .string v] := by simp [recsW, recW]
def actX (w : World) (s : ByteArray) (x : Rec × Int) (Bx : Nat) : Act := { tmps := #[.string s, undef, .pointer (some ⟨w.heap.size, 0, none⟩), .pointer (some ⟨w.heap.size + 1, 0, none⟩), .pointer (some ⟨Bx, 0, none⟩), .int .i64 x.2, .string s, .int .i64 s.size, .bool false, undef, .string s, .func (.func 104) #[] #[.pointer (some ⟨w.heap.size + 1 + 1, 0, none⟩)], .agg #[.string x.1.name, .bool x.1.has, .string x.1.value], .int .i64 x.2, undef, undef, undef, undef, undef, undef, undef, undef, undef, undef, undef, undef, undef, undef], defers := [] }
set_option maxRecDepth 100000 in
set_option maxHeartbeats 8000000 in
theorem implParse_loop (s : ByteArray) (w : World) (hs : s.size ≤ 1000) (hset : SetIs w) :
    Calls Tryz.prog 52 #[.string s] w fun e w' => ParseOut s w.heap.size e w' ∧ Below w.heap.size w w' := by
  have g : ¬ (1000 : Int) < s.size := by omega
  have hG : 0 < w.heap.size := by
    obtain ⟨cs, tt, fr, hg, _⟩ := hset
    exact (Array.getElem?_eq_some_iff.1 hg).1
  obtain ⟨i0, hi, hz0, hz1, hz2⟩ := info_parts infoItem
  refine (callsIn_wide (n := 3)).1 ?_
  refine callsIn_of_wp_marks Tryz.func52 rfl trivial ?_ rfl
  simp only [Tryz.ntmps52, List.size_toArray, List.length_cons, List.length_nil, Nat.reduceAdd, Nat.reduceSub, Array.replicate_succ, Array.replicate_zero, List.push_toArray, List.append_toArray, List.nil_append, List.cons_append]
  gi_wp2_with (refine ⟨trivial, ?_⟩; gi_at_call 77; refine (callsIn_wide.2 (itemsOf_any s _)).mono ?_; rintro e w' ⟨rfl, rfl⟩)
  have hb0 : Below w.heap.size w (((w.alloc (.cells #[.int .i64 0, .slice none 0 0] 56)).alloc (.cells #[.slice none 0 0] 54)).alloc (.cells #[.string s] 9)) := (((Below.refl _ w).alloc (Nat.le_refl _) _).alloc (by simp) _).alloc (by simp; omega) _
  have hsz : (((w.alloc (.cells #[.int .i64 0, .slice none 0 0] 56)).alloc (.cells #[.slice none 0 0] 54)).alloc (.cells #[.string s] 9)).heap.size = w.heap.size + 3 := by simp
  have hpi : PI w [] (((w.alloc (.cells #[.int .i64 0, .slice none 0 0] 56)).alloc (.cells #[.slice none 0 0] 54)).alloc (.cells #[.string s] 9)) := by
    have e1 := World.size_alloc w (.cells #[.int .i64 0, .slice none 0 0] 56)
    have b1 : ((w.alloc (.cells #[.int .i64 0, .slice none 0 0] 56)).alloc (.cells #[.slice none 0 0] 54)).cell? ⟨w.heap.size + 1, 0, none⟩ = some (.slice none 0 0) := by rw [← e1]; simp
    have b2 : ((w.alloc (.cells #[.int .i64 0, .slice none 0 0] 56)).alloc (.cells #[.slice none 0 0] 54)).frozen? ⟨w.heap.size + 1, 0, none⟩ = false := by rw [← e1]; simp
    have k := (Below.refl _ ((w.alloc (.cells #[.int .i64 0, .slice none 0 0] 56)).alloc (.cells #[.slice none 0 0] 54))).alloc (Nat.le_refl _) (.cells #[.string s] 9)
    have a0 : (w.alloc (.cells #[.int .i64 0, .slice none 0 0] 56)).cell? ⟨w.heap.size, 0, none⟩ = some (.int .i64 0) := by simp
    have a1 : (w.alloc (.cells #[.int .i64 0, .slice none 0 0] 56)).cell? ⟨w.heap.size, 1, none⟩ = some (.slice none 0 0) := by simp
    have z0 : (w.alloc (.cells #[.int .i64 0, .slice none 0 0] 56)).frozen? ⟨w.heap.size, 0, none⟩ = false := by simp
    have z1 : (w.alloc (.cells #[.int .i64 0, .slice none 0 0] 56)).frozen? ⟨w.heap.size, 1, none⟩ = false := by simp
    refine { good := fun x hx => by simp at hx, row := ⟨.slice none 0 0, f_keepA _ b1, OwnI.nil _ _⟩, bf := ?_, c0 := f_keepA _ (f_keepA _ a0), c1 := f_keepA _ (f_keepA _ a1), f0 := (fr_keepA _ (f_keepA _ a0)).trans ((fr_keepA _ a0).trans z0), f1 := (fr_keepA _ (f_keepA _ a1)).trans ((fr_keepA _ a1).trans z1), below := hb0, size := by rw [hsz]; omega }
    rw [k.frozen (block_lt_of_cell b1)]; exact b2
  have hct : (((w.alloc (.cells #[.int .i64 0, .slice none 0 0] 56)).alloc (.cells #[.slice none 0 0] 54)).alloc (.cells #[.string s] 9)).cell? ⟨w.heap.size + 2, 0, none⟩ = some (.string s) := by
    have e1 : ((w.alloc (.cells #[.int .i64 0, .slice none 0 0] 56)).alloc (.cells #[.slice none 0 0] 54)).heap.size = w.heap.size + 2 := by simp
    have hc := cell_one ((w.alloc (.cells #[.int .i64 0, .slice none 0 0] 56)).alloc (.cells #[.slice none 0 0] 54)) (.string s) 9
    rw [e1] at hc
    exact hc
  obtain ⟨W0, hW0⟩ : ∃ W0, (((w.alloc (.cells #[.int .i64 0, .slice none 0 0] 56)).alloc (.cells #[.slice none 0 0] 54)).alloc (.cells #[.string s] 9)) = W0 := ⟨_, rfl⟩
  rw [hW0] at hb0 hsz hpi hct ⊢
  clear hW0
  have hset0 : SetIs W0 := hset.below hb0
  refine wpIn_rangeFunc_ownH rfl (by omega) (gf := 104) (lb := #[.pointer (some ⟨w.heap.size + 2, 0, none⟩)]) rfl trivial (enters_of Tryz.func104 (by kernel_rfl) rfl)
    (tell_stops 2 (by omega) (w.heap.size + 2) w.heap.size s hs hG W0 (by omega) hct hset0) keepT_t (keepT_b (by omega)) (Below.refl _ _) (fun _ => rfl)
    (fun pre W => PI w pre W) (fun c pre W => PX w c pre W)
    (fun pre W W' row h hg hr => pi_grown h hg (fun r e => by have := hr r e; rw [hsz] at this; exact this))
    (fun c pre W W' row h hg hr => px_grown h hg (fun r e => by have := hr r e; rw [hsz] at this; exact this))
    hpi
    (fun x a' W => ∃ Bx, w.heap.size + 3 ≤ Bx ∧ (W.cell? ⟨Bx, 0, none⟩ = some (.string x.1.name) ∧ W.cell? ⟨Bx, 1, none⟩ = some (.bool x.1.has) ∧ W.cell? ⟨Bx, 2, none⟩ = some (.string x.1.value)) ∧ a' = actX w s x Bx)
    (fun x a' _ W W' row h hg hr => by
      obtain ⟨Bx, h1, ⟨h2, h3, h4⟩, h5⟩ := h
      exact ⟨Bx, h1, ⟨cell_kept h2 hg (fun r e => (hr r e).2), cell_kept h3 hg (fun r e => (hr r e).2), cell_kept h4 hg (fun r e => (hr r e).2)⟩, h5⟩)
    ?assign ?body ?done ?stop
  case assign =>
    rintro l pre x W K hI hK
    have HK := hK (actX w s x W.heap.size) (W.alloc (.cells #[.string x.1.name, .bool x.1.has, .string x.1.value] 65)) ((KeepsOthers.alloc _ _).from _) ⟨(Below.refl _ W).alloc (by have := hI.size; omega) _, fun h => f_keepA _ h⟩ (pi_alloc hI _) ⟨W.heap.size, hI.size, ⟨by simp, by simp, by simp⟩, rfl⟩
    clear hK
    unfold actX at HK
    simp only [encX]
    gi_wp2
    exact HK
  case body =>
    rintro l pre x a' W hl hrec hI ⟨Bx, hBx, ⟨x0, x1, x2⟩, rfl⟩ hlt
    unfold actX
    rw [hsz]
    obtain ⟨⟨rn, rh, rv⟩, rc⟩ := x
    simp only at x0 x1 x2 ⊢
    obtain ⟨v, hv, ho⟩ := hI.row
    have hlen : (pre.map (·.1)).length < 1002 := by rw [List.length_map]; exact hlt
    have HI : Hid (PI w pre W) := hI
    have hzW := hI.size
    by_cases c0 : rc = 0
    · subst c0
      have hgo : ∀ (v' : Value) (w1 : World), OwnI w1 (w.heap.size + 3) v' (pre.map (·.1) ++ [⟨rn, rh, rv⟩]) → (W.alloc (.cells #[.string rn, .bool rh, .string rv] 65)).grownBy w1 v.ownBlock → _ := fun v' w1 ho' hg => pi_append (s := s) HI.out hv ho ho' hg
      have HGO : Hid (∀ (v' : Value) (w1 : World), OwnI w1 (w.heap.size + 3) v' (pre.map (·.1) ++ [⟨rn, rh, rv⟩]) → (W.alloc (.cells #[.string rn, .bool rh, .string rv] 65)).grownBy w1 v.ownBlock → w1.cell? ⟨w.heap.size + 1, 0, none⟩ = some v ∧ w1.frozen? ⟨w.heap.size + 1, 0, none⟩ = false ∧ PI w (pre ++ [(⟨rn, rh, rv⟩, 0)]) (w1.setCell ⟨w.heap.size + 1, 0, none⟩ v') ∧ KeepT w.heap.size (w.heap.size + 2) s W (w1.setCell ⟨w.heap.size + 1, 0, none⟩ v') ∧ KeepsFrom (w.heap.size + 3) W (w1.setCell ⟨w.heap.size + 1, 0, none⟩ v')) := hgo
      have HO : Hid (OwnI W (w.heap.size + 3) v (pre.map (·.1))) := ho
      clear hgo ho hI
      gi_wp2_with (gi_at_builtin; refine wpListIn_append_own _ rfl _ _ 54 rfl (w.heap.size + 3) 65 i0 (.agg #[.string ⟨#[]⟩, .bool false, .string ⟨#[]⟩]) 3 40 Tryz.underlying54 hi hz0 hz1 hz2 rfl (by decide) v (pre.map (·.1)).length (recsW (pre.map (·.1))) rfl (World.ownsRow.alloc HO.out _) ⟨W.heap.size, 0, none⟩ 1 1 [.string rn, .bool rh, .string rv] rfl rfl (cells3_new _ _ _ _ _) (by simp [Value.oneCell']) (by unfold maxLen; omega) (by omega) (by simp; omega) ?_; intro v' w1 hown' hgrow _; obtain ⟨g', cap', hg'⟩ := ownsRow_succ hown'; obtain ⟨hc1, hf1, hp1, hk1, hkf1⟩ := HGO.out v' w1 (by unfold OwnI; rw [recsW_snoc, List.length_append]; exact hown') hgrow; subst hg')
      rw [List.length_map] at hkf1 hk1 hp1
      exact ⟨hkf1, hk1, hp1⟩
    · have e0 : (rc != 0) = true := by simpa using c0
      have hc0 := hI.c0
      have hc1 := hI.c1
      have hf0 := hI.f0
      have hf1 := hI.f1
      obtain ⟨q0, q1⟩ := two_set (v0 := .int .i64 rc) (v1 := .slice none 0 0) hc0 hc1
      have HX : Hid (PX w .ret (pre ++ [(⟨rn, rh, rv⟩, rc)]) ((W.setCell ⟨w.heap.size, 0, none⟩ (.int .i64 rc)).setCell ⟨w.heap.size, 1, none⟩ (.slice none 0 0))) := ⟨rfl, ⟨pre, _, rfl, c0, q0, q1⟩, (hI.below.setCell (p := ⟨w.heap.size, 0, none⟩) (Nat.le_refl _) _).setCell (p := ⟨w.heap.size, 1, none⟩) (Nat.le_refl _) _⟩
      clear ho hI q0 q1
      gi_wp2
      exact ⟨((KeepsOthers.setCell _ _ _).trans (KeepsOthers.setCell _ _ _)).from _, HX.out⟩
  case done =>
    rintro D ys W hD hS hI hK
    rw [hsz] at hD
    obtain ⟨v, hv, ho⟩ := hI.row
    have hrd : readP (pcs false [] s.data.toList) = some (ys.map (·.1)) := readP_all _ _ hS hI.good
    obtain ⟨va, vc, rfl, _⟩ := ho.at
    have hc0 := hI.c0
    have hc1 := hI.c1
    have hf0 := hI.f0
    have hf1 := hI.f1
    have hbW := hI.below
    have HO : Hid (OwnI W (w.heap.size + 3) (.slice va (ys.map (·.1)).length vc) (ys.map (·.1))) := ho
    have hnl : (ys.map (·.1)).length ≤ 1000000 := by
      rw [List.length_map, ← tells_len hS]
      have h1 := trims_len (pcs false [] s.data.toList)
      have h2 := (pcs_small s.data.toList.length s.data.toList false [] (Nat.le_refl _)).2
      rw [size_list] at h2
      omega
    by_cases hbig : 20 < (ys.map (·.1)).length
    · have HY : Hid (parseC s = 2 ∧ parseL s = []) := parse_many (by omega) hrd hbig
      have gb : (20 : Int) < ((ys.map (·.1)).length : Int) := by omega
      clear hrd hS hI ho
      generalize ys.map (·.1) = L at *
      obtain ⟨q0, q1⟩ := two_set (v0 := .int .i64 2) (v1 := .slice none 0 0) hc0 hc1
      have hK2 := ((KeepsOthers.setCell W ⟨w.heap.size, 0, none⟩ (.int .i64 2)).trans (KeepsOthers.setCell _ ⟨w.heap.size, 1, none⟩ (.slice none 0 0))).same D _ hK rfl
      obtain ⟨r0, r1, r2, r3⟩ := parse_end hD hK2 q0 q1 ((hbW.setCell (p := ⟨w.heap.size, 0, none⟩) (Nat.le_refl _) _).setCell (p := ⟨w.heap.size, 1, none⟩) (Nat.le_refl _) _) (OwnI.nil _ _) HY.out
      have RR : Hid (ParseOut s w.heap.size (.returned (.agg #[.int .i64 2, .slice none 0 0])) _ ∧ Below w.heap.size w _) := ⟨r2, r3⟩
      clear r2 r3
      gi_wp2
      refine ⟨by simp, .inl ⟨_, _, rfl, run_takeDeferred hK2, ?_⟩⟩
      exact ⟨.agg #[.int .i64 2, .slice none 0 0], by simp [results, Tryz.results52, go_sem, r0, r1], RR.out⟩
    · have HY : Hid (parseC s = 0 ∧ parseL s = ys.map (·.1)) := parse_ok (by omega) hrd hbig
      have gb : ¬ (20 : Int) < ((ys.map (·.1)).length : Int) := by omega
      clear hrd hS hI ho
      generalize ys.map (·.1) = L at *
      obtain ⟨q0, q1⟩ := two_set (v0 := .int .i64 0) (v1 := .slice va L.length vc) hc0 hc1
      have hK2 := ((KeepsOthers.setCell W ⟨w.heap.size, 0, none⟩ (.int .i64 0)).trans (KeepsOthers.setCell _ ⟨w.heap.size, 1, none⟩ (.slice va L.length vc))).same D _ hK rfl
      obtain ⟨r0, r1, r2, r3⟩ := parse_end hD hK2 q0 q1 ((hbW.setCell (p := ⟨w.heap.size, 0, none⟩) (Nat.le_refl _) _).setCell (p := ⟨w.heap.size, 1, none⟩) (Nat.le_refl _) _) (own_set (own_set HO.out (by omega)) (by omega)) HY.out
      have RR : Hid (ParseOut s w.heap.size (.returned (.agg #[.int .i64 0, .slice va L.length vc])) _ ∧ Below w.heap.size w _) := ⟨r2, r3⟩
      clear r2 r3
      gi_wp2
      refine ⟨by simp, .inl ⟨_, _, rfl, run_takeDeferred hK2, ?_⟩⟩
      exact ⟨.agg #[.int .i64 0, .slice va L.length vc], by simp [results, Tryz.results52, go_sem, r0, r1], RR.out⟩
  case stop =>
    rintro D c pre W hD ⟨d, hd, ht⟩ ⟨rfl, ⟨pr, x, rfl, hx, q0, q1⟩, hbW⟩ hK
    rw [hsz] at hD
    obtain ⟨t, htd, htx⟩ := tells_last ht
    have hx5 : x.2 = 5 ∧ readR t = none := by
      rcases htx with h | h
      · exact absurd h.1 hx
      · exact h
    have hrd : readP (pcs false [] s.data.toList) = none := readP_none _ t (hd.subset htd) hx5.2
    have HY : Hid (parseC s = 5 ∧ parseL s = []) := parse_bad (by omega) hrd
    rw [hx5.1] at q0
    obtain ⟨r0, r1, r2, r3⟩ := parse_end hD hK q0 q1 hbW (OwnI.nil _ _) HY.out
    have RR : Hid (ParseOut s w.heap.size (.returned (.agg #[.int .i64 5, .slice none 0 0])) _ ∧ Below w.heap.size w _) := ⟨r2, r3⟩
    clear r2 r3
    gi_wp2
    refine ⟨by simp, .inl ⟨_, _, rfl, run_takeDeferred hK, ?_⟩⟩
    exact ⟨.agg #[.int .i64 5, .slice none 0 0], by simp [results, Tryz.results52, go_sem, r0, r1], RR.out⟩
end Go.Proofs.YtgfbahjpaaanoaaGreatDoor
/-
  markText: a text of its own for each number.
-/
namespace Go.Proofs.YtgfbahjpaaanoaaGreatDoor
open Go.ChangeShapes Go.WideShapes Go.ChangeAt Go.RowKit
def mkD (k : Nat) (o : ByteArray) : ByteArray := if _h : k = 0 then o else mkD (k / 10) ((⟨#[UInt8.ofNat (48 + k % 10)]⟩ : ByteArray) ++ o)
termination_by k
decreasing_by omega
theorem mkD_zero (o : ByteArray) : mkD 0 o = o := by rw [mkD]; simp
theorem mkD_more {k : Nat} (h : k ≠ 0) (o : ByteArray) : mkD k o = mkD (k / 10) ((⟨#[UInt8.ofNat (48 + k % 10)]⟩ : ByteArray) ++ o) := by rw [mkD, dif_neg h]
def mkT (k : Nat) : ByteArray := (⟨#[109]⟩ : ByteArray) ++ mkD k ⟨#[]⟩
theorem one_byteM (c : Int) (x : UInt8) (hx : (x.toNat : Int) = c) (W : World) (B cap : Nat) (hc : W.cell? ⟨B, 0, none⟩ = some (.int .u8 c)) :
    (convert 22 9 (.slice (some ⟨B, 0, none⟩) 1 cap)).run Tryz.prog W = .ok (.string ⟨#[x]⟩) W := by
  have := run_convert_bytes_back (P := Tryz.prog) W 22 9 5 ⟨B, 0, none⟩ cap [x] Tryz.underlying22 Tryz.underlying5 Tryz.underlying9 (fun j hj => by
    obtain rfl : j = 0 := by simp at hj; omega
    simp [Addr.add, hc, hx])
  simpa using this
end Go.Proofs.YtgfbahjpaaanoaaGreatDoor
/-
  markItemS and heldItemS: marks laid into a list of items, and found again.
-/
namespace Go.Proofs.YtgfbahjpaaanoaaGreatDoor
open Go.ChangeShapes Go.WideShapes Go.ChangeAt Go.RowKit Go.Sort
def mkR (k : Nat) (j : Nat) : Rec := ⟨mkT (k + 3 * j), decide ((k + 3 * j + 1) % 3 = 0), mkT (k + 3 * j + 2)⟩
def mkL (k n : Nat) : List Rec := (List.range n).map (mkR k)
theorem mkL_len (k n : Nat) : (mkL k n).length = n := by simp [mkL]
theorem mkL_get {k n i : Nat} (h : i < n) : (mkL k n)[i]? = some (mkR k i) := by simp [mkL, h]
theorem cell_set_same {w : World} {g o : Nat} {u v : Value} (h : w.cell? ⟨g, o, none⟩ = some u) : (w.setCell ⟨g, o, none⟩ v).cell? ⟨g, o, none⟩ = some v := World.cell?_setCell_same _ _ _ h
theorem cell_set_off {w : World} {g o o' : Nat} {v : Value} (h : o ≠ o') : (w.setCell ⟨g, o', none⟩ v).cell? ⟨g, o, none⟩ = w.cell? ⟨g, o, none⟩ :=
  World.cell?_setCell_other _ _ _ _ (by intro e; have := congrArg Addr.off e; simp at this; omega)
/-- One field of one item written. -/
theorem put_name {w : World} {g off i : Nat} {L : List Rec} {r : Rec} (h : ItemsAt w g off L) (hr : L[i]? = some r) (n : ByteArray) :
    ItemsAt (w.setCell ⟨g, off + i * 3, none⟩ (.string n)) g off (L.set i { r with name := n }) := by
  intro j q hq
  by_cases e : j = i
  · subst e
    have hl := (List.getElem?_eq_some_iff.1 hr).1
    rw [List.getElem?_set_self hl] at hq
    obtain rfl := Option.some.inj hq
    obtain ⟨a, b, c⟩ := h j r hr
    exact ⟨cell_set_same a, by rw [cell_set_off (by omega)]; exact b, by rw [cell_set_off (by omega)]; exact c⟩
  · rw [List.getElem?_set_ne (fun k => e k.symm)] at hq
    obtain ⟨a, b, c⟩ := h j q hq
    exact ⟨by rw [cell_set_off (by omega)]; exact a, by rw [cell_set_off (by omega)]; exact b, by rw [cell_set_off (by omega)]; exact c⟩
theorem put_has {w : World} {g off i : Nat} {L : List Rec} {r : Rec} (h : ItemsAt w g off L) (hr : L[i]? = some r) (n : Bool) :
    ItemsAt (w.setCell ⟨g, off + i * 3 + 1, none⟩ (.bool n)) g off (L.set i { r with has := n }) := by
  intro j q hq
  by_cases e : j = i
  · subst e
    have hl := (List.getElem?_eq_some_iff.1 hr).1
    rw [List.getElem?_set_self hl] at hq
    obtain rfl := Option.some.inj hq
    obtain ⟨a, b, c⟩ := h j r hr
    exact ⟨by rw [cell_set_off (by omega)]; exact a, cell_set_same b, by rw [cell_set_off (by omega)]; exact c⟩
  · rw [List.getElem?_set_ne (fun k => e k.symm)] at hq
    obtain ⟨a, b, c⟩ := h j q hq
    exact ⟨by rw [cell_set_off (by omega)]; exact a, by rw [cell_set_off (by omega)]; exact b, by rw [cell_set_off (by omega)]; exact c⟩
theorem put_value {w : World} {g off i : Nat} {L : List Rec} {r : Rec} (h : ItemsAt w g off L) (hr : L[i]? = some r) (n : ByteArray) :
    ItemsAt (w.setCell ⟨g, off + i * 3 + 2, none⟩ (.string n)) g off (L.set i { r with value := n }) := by
  intro j q hq
  by_cases e : j = i
  · subst e
    have hl := (List.getElem?_eq_some_iff.1 hr).1
    rw [List.getElem?_set_self hl] at hq
    obtain rfl := Option.some.inj hq
    obtain ⟨a, b, c⟩ := h j r hr
    exact ⟨by rw [cell_set_off (by omega)]; exact a, by rw [cell_set_off (by omega)]; exact b, cell_set_same c⟩
  · rw [List.getElem?_set_ne (fun k => e k.symm)] at hq
    obtain ⟨a, b, c⟩ := h j q hq
    exact ⟨by rw [cell_set_off (by omega)]; exact a, by rw [cell_set_off (by omega)]; exact b, by rw [cell_set_off (by omega)]; exact c⟩
/-- The state of the marking loop: j items are marked. -/
structure Marked (w : World) (g off : Nat) (k n j : Nat) (L : List Rec) (W : World) : Prop where
  len : L.length = n
  done : ∀ i, i < j → L[i]? = some (mkR k i)
  items : ItemsAt W g off L
  thaw : ∀ o, W.frozen? ⟨g, o, none⟩ = false
  apart : Apart g w W
  low : Below g w W
  lt : g < W.heap.size
theorem Marked.below {w : World} {g off k n j : Nat} {L : List Rec} {W W' : World} (h : Marked w g off k n j L W) (hb : Below W.heap.size W W') : Marked w g off k n j L W' :=
  ⟨h.len, h.done, h.items.keep hb, fun o => by rw [hb.frozen (p := ⟨g, o, none⟩) h.lt, h.thaw], h.apart.trans (.below hb), h.low.trans (hb.mono (Nat.le_of_lt h.lt)), Nat.lt_of_lt_of_le h.lt hb.size⟩
theorem Marked.set {w : World} {g off k n j o : Nat} {L L' : List Rec} {W : World} {v : Value} (h : Marked w g off k n j L W) (hl : L'.length = L.length) (hd : ∀ i, i < j → L'[i]? = L[i]?) (hi : ItemsAt (W.setCell ⟨g, o, none⟩ v) g off L') : Marked w g off k n j L' (W.setCell ⟨g, o, none⟩ v) :=
  ⟨hl.trans h.len, fun i hi => (hd i hi).trans (h.done i hi), hi, fun o => by rw [World.frozen?_setCell, h.thaw], h.apart.trans (.set _ _ _ _), h.low.setCell (Nat.le_refl _) _, by simpa using h.lt⟩
end Go.Proofs.YtgfbahjpaaanoaaGreatDoor
/-
  markItemS and heldItemS.
-/
namespace Go.Proofs.YtgfbahjpaaanoaaGreatDoor
open Go.ChangeShapes Go.WideShapes Go.ChangeAt Go.RowKit Go.Sort
end Go.Proofs.YtgfbahjpaaanoaaGreatDoor
/-
  The laws' comparing of two lists of items that are alike.
-/
namespace Go.Proofs.YtgfbahjpaaanoaaGreatDoor
open Go.ChangeShapes Go.WideShapes Go.ChangeAt Go.RowKit Go.Sort
end Go.Proofs.YtgfbahjpaaanoaaGreatDoor
/-
  A list of items as a value: compared, marked, held.
-/
namespace Go.Proofs.YtgfbahjpaaanoaaGreatDoor
open Go.ChangeShapes Go.WideShapes Go.ChangeAt Go.RowKit Go.Sort
def LV (w : World) (v : Value) (l : List Rec) : Prop :=
  (v = .slice none 0 0 ∧ l = []) ∨ ∃ g cap, v = .slice (some ⟨g, 0, none⟩) l.length cap ∧ g < w.heap.size ∧ ItemsAt w g 0 l ∧ ∀ o, w.frozen? ⟨g, o, none⟩ = false
theorem OwnI.lv {w : World} {base : Nat} {v : Value} {l : List Rec} (h : OwnI w base v l) : LV w v l ∧ ∀ b, v.ownBlock = some b → base ≤ b := by
  have h0 := h
  obtain ⟨_, h1 | ⟨g, c, cur, rfl, hg, hh, _⟩⟩ := h
  · have e : l = [] := List.eq_nil_of_length_eq_zero h1.2
    exact ⟨.inl ⟨h1.1, e⟩, fun b hb => by rw [h1.1] at hb; cases hb⟩
  · refine ⟨.inr ⟨g, c, rfl, (Array.getElem?_eq_some_iff.1 hh).1, ?_, fun o => ?_⟩, fun b hb => ?_⟩
    · obtain ⟨a, c', e, hi⟩ := h0.at
      rcases hi with rfl | ⟨b, off, rfl, hat⟩
      · intro i r hr; simp at hr
      · simp only [Value.slice.injEq, Option.some.injEq] at e
        obtain ⟨e, _⟩ := e
        have e1 := congrArg Addr.block e
        have e2 := congrArg Addr.off e
        simp only at e1 e2
        rw [e1, e2]
        exact hat
    · simp [World.frozen?, hh]
    · simp only [Value.ownBlock, Option.some.injEq] at hb; omega
theorem LV.below {w w' : World} {v : Value} {l : List Rec} (h : LV w v l) (hb : Below w.heap.size w w') : LV w' v l := by
  rcases h with h | ⟨g, c, e, hg, hi, hf⟩
  · exact .inl h
  · exact .inr ⟨g, c, e, Nat.lt_of_lt_of_le hg hb.size, hi.keep hb, fun o => by rw [hb.frozen (p := ⟨g, o, none⟩) hg, hf]⟩
/-- All that was there, but for the memory of v, is as it was. -/
structure AV (v : Value) (w w' : World) : Prop where
  size : w.heap.size ≤ w'.heap.size
  cell : ∀ b o, b < w.heap.size → v.ownBlock ≠ some b → w'.cell? ⟨b, o, none⟩ = w.cell? ⟨b, o, none⟩
  frozen : ∀ b o, b < w.heap.size → v.ownBlock ≠ some b → w'.frozen? ⟨b, o, none⟩ = w.frozen? ⟨b, o, none⟩
theorem AV.below {v : Value} {w w' : World} (h : Below w.heap.size w w') : AV v w w' :=
  ⟨h.size, fun b o hb _ => h.cell (p := ⟨b, o, none⟩) hb, fun b o hb _ => h.frozen (p := ⟨b, o, none⟩) hb⟩
theorem LV.av {w w' : World} {v v1 : Value} {l : List Rec} (h : LV w v1 l) (k : AV v w w') (hne : ∀ b, v1.ownBlock = some b → v.ownBlock ≠ some b) : LV w' v1 l := by
  rcases h with h | ⟨g, c, rfl, hg, hi, hf⟩
  · exact .inl h
  · have hn := hne g rfl
    exact .inr ⟨g, c, rfl, Nat.lt_of_lt_of_le hg k.size, fun i r hr => by rw [k.cell g _ hg hn, k.cell g _ hg hn, k.cell g _ hg hn]; exact hi i r hr, fun o => by rw [k.frozen g o hg hn, hf]⟩
end Go.Proofs.YtgfbahjpaaanoaaGreatDoor
/-
  ParseItems on both sides, for every text.
-/
namespace Go.Proofs.YtgfbahjpaaanoaaGreatDoor
open Go.ChangeShapes Go.WideShapes Go.ChangeAt Go.RowKit Go.Sort
theorem parseL_len (s : ByteArray) : (parseL s).length ≤ 20 := by
  unfold parseL
  split
  · simp
  · split
    · simp
    · split
      · simp
      · omega
set_option maxHeartbeats 1000000 in
theorem specParse_fn (s : ByteArray) (w : World) :
    Calls Tryz.prog 91 #[.string s] w fun e w' => ParseOut s w.heap.size e w' ∧ Below w.heap.size w w' := by
  by_cases hs : 1000 < s.size
  · have hh : (1000 : Int) < s.size := by omega
    have HL : Hid (parseC s = 2 ∧ parseL s = []) := parse_long hs
    go_enter Tryz.func91, Tryz.ntmps91
    go_wp2
    exact bodyPost_ret (v := .agg #[.int .i64 2, .slice none 0 0]) (by simp [results, Tryz.results91, go_sem]) rfl ⟨ParseOut.mk HL.out (OwnI.nil _ _), (Below.refl _ _).alloc (Nat.le_refl _) _⟩
  have hh : ¬ (1000 : Int) < s.size := by omega
  have HP : Hid (∀ W, Calls Tryz.prog 119 #[.string s] W fun e w' => ParseRes s W.heap.size e w' ∧ Below W.heap.size W w') := fun W => l2Parse_any s W hs
  clear hs
  go_enter Tryz.func91, Tryz.ntmps91
  go_wp2_with fail
  refine (HP.out _).mono ?_
  rintro e w1 ⟨⟨v, rfl, ho⟩, hb⟩
  have p0 : w1.cell? ⟨w.heap.size, 0, none⟩ = some (.int .i64 0) := by rw [hb.cell (p := ⟨w.heap.size, 0, none⟩) (by simp)]; simp
  have p1 : w1.cell? ⟨w.heap.size, 1, none⟩ = some (.slice none 0 0) := by rw [hb.cell (p := ⟨w.heap.size, 1, none⟩) (by simp)]; simp
  have f0 : w1.frozen? ⟨w.heap.size, 0, none⟩ = false := by rw [hb.frozen (p := ⟨w.heap.size, 0, none⟩) (by simp)]; simp
  have f1 : w1.frozen? ⟨w.heap.size, 1, none⟩ = false := by rw [hb.frozen (p := ⟨w.heap.size, 1, none⟩) (by simp)]; simp
  have KB : Hid (Below w.heap.size w w1) := ((Below.refl _ _).alloc (Nat.le_refl _) _).trans (hb.mono (by simp))
  have ho2 : OwnI w1 (w.heap.size + 1) v (parseL s) := by simpa using ho
  obtain ⟨va, vc, hv, _⟩ := ho2.at
  generalize hn : (parseL s).length = vn at hv
  subst hv
  have KO : Hid (OwnI w1 (w.heap.size + 1) (.slice va vn vc) (parseL s)) := ho2
  clear hb ho HP ho2 hn
  obtain ⟨c, hc⟩ : ∃ c, Hid (parseC s = c) := ⟨_, rfl⟩
  rw [hc.out]
  obtain ⟨q0, q1⟩ := two_set (v0 := .int .i64 c) (v1 := .slice va vn vc) p0 p1
  go_wp2_with fail
  refine bodyPost_ret (v := .agg #[.int .i64 c, .slice va vn vc]) (by simp [results, Tryz.results91, go_sem, q0, q1]) rfl ⟨ParseOut.mk ⟨hc.out, rfl⟩ ?_, (KB.out.setCell (Nat.le_refl _) _).setCell (Nat.le_refl _) _⟩
  exact ((own_set (own_set KO.out (Nat.lt_succ_self _)) (Nat.lt_succ_self _))).lower (Nat.le_succ _)
set_option maxHeartbeats 1000000 in
theorem implParse_fn (s : ByteArray) (w : World) (hset : SetIs w) :
    Calls Tryz.prog 52 #[.string s] w fun e w' => ParseOut s w.heap.size e w' ∧ Below w.heap.size w w' := by
  by_cases hs : 1000 < s.size
  · have hh : (1000 : Int) < s.size := by omega
    have HL : Hid (parseC s = 2 ∧ parseL s = []) := parse_long hs
    clear hset
    go_enter Tryz.func52, Tryz.ntmps52
    go_wp2
    exact bodyPost_ret (v := .agg #[.int .i64 2, .slice none 0 0]) (by simp [results, Tryz.results52, go_sem]) rfl ⟨ParseOut.mk HL.out (OwnI.nil _ _), (Below.refl _ _).alloc (Nat.le_refl _) _⟩
  · exact implParse_loop s w (by omega) hset
end Go.Proofs.YtgfbahjpaaanoaaGreatDoor
/-
  The items of all values of a name, on both sides.
-/
namespace Go.Proofs.YtgfbahjpaaanoaaGreatDoor
open Go.ChangeShapes Go.WideShapes Go.ChangeAt Go.RowKit Go.Sort
theorem readR_word {s : ByteArray} {r : Rec} (h : readR s = some r) : wordS r.name = true := by
  unfold readR at h
  split at h
  · cases h
  · rename_i hw
    have hw' : wordS (s.extract 0 (eqAt s.data.toList)) = true := by simpa using hw
    split at h
    · rename_i he
      obtain rfl := Option.some.inj h
      rw [he] at hw'
      have e : s.extract 0 s.size = s := by apply ByteArray.ext; simp
      rw [e] at hw'
      exact hw'
    · split at h
      · obtain rfl := Option.some.inj h
        exact hw'
      · split at h
        · obtain rfl := Option.some.inj h
          exact hw'
        · cases h
theorem readP_word : ∀ (ps : List (List UInt8)) (L : List Rec), readP ps = some L → ∀ r ∈ L, wordS r.name = true
  | [], L, h, r, hr => by
    simp [readP] at h
    subst h
    simp at hr
  | p :: ps, L, h, r, hr => by
    rw [readP] at h
    split at h
    · exact readP_word ps L h r hr
    · split at h
      · cases h
      · rename_i q hq
        obtain ⟨M, hM, rfl⟩ := Option.map_eq_some_iff.1 h
        rcases List.mem_cons.1 hr with rfl | hr
        · exact readR_word hq
        · exact readP_word ps M hM r hr
theorem parse_word {s : ByteArray} {r : Rec} (h : r ∈ parseL s) : wordS r.name = true := by
  unfold parseL at h
  split at h
  · simp at h
  · split at h
    · simp at h
    · rename_i L hL
      split at h
      · simp at h
      · exact readP_word _ L hL r h
theorem parse_empty : parseC ⟨#[]⟩ = 0 ∧ parseL ⟨#[]⟩ = [] := by decide +kernel
/-- All values of a name, one text. -/
def underT (x : ByteArray) (l : List Hdr) : ByteArray := ⟨(hjoinL (valsOf x l)).toArray⟩
theorem under_none {x : ByteArray} {l : List Hdr} (h : valsOf x l = []) : underT x l = ⟨#[]⟩ := by
  unfold underT
  rw [h]
  rfl
theorem under_size {x : ByteArray} {l : List Hdr} (h0 : headsC l = 0) : (underT x l).size ≤ 4040 := by
  obtain ⟨h20, hz⟩ := first_sizes h0
  have h1 := hjoinL_len _ (valsOf_mem (x := x) hz)
  have h2 := valsOf_len x l
  have h3 : (valsOf x l).length * 202 ≤ 20 * 202 := Nat.mul_le_mul_right _ (by omega)
  show (hjoinL (valsOf x l)).toArray.size ≤ _
  rw [List.size_toArray]
  omega
theorem under_join {l : List Hdr} {name : ByteArray} (h0 : headsC l = 0) (hw : wordS name = true) : joinT l name = underT (lowS name) l := by
  have ha : askC l name = 0 := by rw [askC, if_pos h0, if_pos hw]
  by_cases hv : valsOf (lowS name) l = []
  · rw [(join_none ha hv).2, under_none hv]
  · rw [(join_some ha hv).2]; rfl
def ItemsOut (t : ByteArray) (base : Nat) (e : Ending) (w : World) : Prop := ∃ a n k, e = .returned (.tuple #[.slice a n k, .bool (decide (parseC t = 0))]) ∧ OwnI w base (.slice a n k) (parseL t)
theorem ItemsOut.mk {t : ByteArray} {base : Nat} {w : World} {a : Option Addr} {n k : Nat} {b : Bool} (h : decide (parseC t = 0) = b) (ho : OwnI w base (.slice a n k) (parseL t)) : ItemsOut t base (.returned (.tuple #[.slice a n k, .bool b])) w := ⟨a, n, k, by rw [h], ho⟩
set_option maxRecDepth 100000 in
set_option maxHeartbeats 4000000 in
theorem l6Items_any (w : World) (a : Option Addr) (cap : Nat) (l : List Hdr) (name : ByteArray) (h0 : headsC l = 0) (hnm : name.size ≤ 64) (hi : HdsIn w a l) :
    Calls Tryz.prog 68 #[.slice a l.length cap, .string name] w fun e w' => ItemsOut (underT (lowS name) l) w.heap.size e w' ∧ Below w.heap.size w w' := by
  obtain ⟨h20, hz⟩ := first_sizes h0
  have H1 := l4Join_any w a cap l name h20 hz hnm hi
  clear hi hz h0
  generalize l.length = n at *
  by_cases hv : valsOf (lowS name) l = []
  · have HU : Hid (underT (lowS name) l = ⟨#[]⟩) := under_none hv
    rw [hv, show anyV [] = false from rfl] at H1
    generalize (⟨(hjoinL []).toArray⟩ : ByteArray) = jt at *
    clear hv
    go_enter Tryz.func68, Tryz.ntmps68
    go_wp2_with fail
    refine H1.mono ?_
    rintro e w1 ⟨rfl, hb1⟩
    have HB : Hid (Below w.heap.size w w1) := hb1
    clear hb1
    go_wp2_with fail
    go_ret2
    exact ⟨ItemsOut.mk (by rw [HU.out, parse_empty.1]; rfl) (by rw [HU.out, parse_empty.2]; exact OwnI.nil _ _), HB.out⟩
  · have hy : anyV (valsOf (lowS name) l) = true := by simpa [anyV] using hv
    rw [hy, show (⟨(hjoinL (valsOf (lowS name) l)).toArray⟩ : ByteArray) = underT (lowS name) l from rfl] at H1
    clear hy hv
    have HP : Hid (∀ W, Calls Tryz.prog 91 #[.string (underT (lowS name) l)] W fun e w' => ParseOut (underT (lowS name) l) W.heap.size e w' ∧ Below W.heap.size W w') := fun W => specParse_fn _ W
    obtain ⟨t, ht⟩ : ∃ t, Hid (underT (lowS name) l = t) := ⟨_, rfl⟩
    rw [ht.out] at H1 HP ⊢
    clear ht
    go_enter Tryz.func68, Tryz.ntmps68
    go_wp2_with fail
    refine H1.mono ?_
    rintro e w1 ⟨rfl, hb1⟩
    have HB : Hid (Below w.heap.size w w1) := hb1
    clear hb1 H1
    go_wp2_with fail
    refine (HP.out _).mono ?_
    rintro e w2 ⟨⟨v, rfl, ho⟩, hb2⟩
    obtain ⟨va, vc, hv, _⟩ := ho.at
    generalize (parseL t).length = vn at hv
    subst hv
    obtain ⟨c, hcc⟩ : ∃ c, Hid (parseC t = c) := ⟨_, rfl⟩
    rw [hcc.out]
    have b2 := HB.out.trans (hb2.mono HB.out.size)
    have al : Below w2.heap.size w2 (w2.alloc (.cells #[.int .i64 c, .slice va vn vc] 56)) := (Below.refl _ _).alloc (Nat.le_refl _) _
    obtain ⟨W, hW⟩ : ∃ X, Hid (X = w2.alloc (.cells #[.int .i64 c, .slice va vn vc] 56)) := ⟨_, rfl⟩
    have K : Hid (Below w.heap.size w W ∧ OwnI W w.heap.size (.slice va vn vc) (parseL t) ∧ W.cell? ⟨w2.heap.size, 0, none⟩ = some (.int .i64 c) ∧ W.cell? ⟨w2.heap.size, 1, none⟩ = some (.slice va vn vc)) := by
      rw [hW.out]
      exact ⟨b2.trans (al.mono b2.size), (ho.below al).lower HB.out.size, by simp, by simp⟩
    clear hb2 ho HB b2 al HP
    go_upto_region 5 with fail
    rw [← hW.out]
    clear hW
    have q0 := K.out.2.2.1
    have q1 := K.out.2.2.2
    have HD : Hid (decide (parseC t = 0) = (c == 0)) := by
      show _ = _
      rw [hcc.out]
      rfl
    generalize w2.heap.size = B2 at *
    go_quiet (fail)
    go_wp2_with fail
    go_ret2
    refine ⟨ItemsOut.mk HD.out ?_, ?_⟩
    · exact K.out.2.1.below (below_drewN (Below.refl _ _) _)
    · exact below_drewN K.out.1 _
theorem tfieldU (c : Int) (t : ByteArray) (w : World) : (Instr.field 98 (.agg #[.int .i64 c, .string t]) 1).run Tryz.prog w = .ok (.string t) w := by kernel_rfl
set_option maxRecDepth 100000 in
set_option maxHeartbeats 4000000 in
theorem itemsUnder_any (w : World) (a : Option Addr) (cap : Nat) (l : List Hdr) (name : ByteArray) (h0 : headsC l = 0) (hw : wordS name = true) (hcap : l.length ≤ cap) (hset : SetIs w) (hi : HdsIn w a l) :
    Calls Tryz.prog 25 #[.slice a l.length cap, .string name] w fun e w' => ParseOut (underT (lowS name) l) w.heap.size e w' ∧ Below w.heap.size w w' := by
  have h20 := (first_sizes h0).1
  have HJ : Hid (∀ W, Below w.heap.size w W → Calls Tryz.prog 53 #[.slice a l.length cap, .string name] W fun e w' => e = .returned (.agg #[.int .i64 (joinC l name), .string (joinT l name)]) ∧ Below W.heap.size W w') := fun W hb => implJoin_any W a cap l name (by omega) hcap (hset.below hb) (hi.keep hb)
  have HP : Hid (∀ W, Below w.heap.size w W → Calls Tryz.prog 52 #[.string (underT (lowS name) l)] W fun e w' => ParseOut (underT (lowS name) l) W.heap.size e w' ∧ Below W.heap.size W w') := fun W hb => implParse_fn _ W (hset.below hb)
  rw [under_join h0 hw] at HJ
  obtain ⟨t, ht⟩ : ∃ t, Hid (underT (lowS name) l = t) := ⟨_, rfl⟩
  rw [ht.out] at HJ HP ⊢
  clear ht hi hset h0 hw hcap h20
  generalize l.length = n at *
  generalize joinC l name = jc at *
  go_enter Tryz.func25, Tryz.ntmps25
  go_wp2_with fail
  refine (HJ.out _ ((Below.refl _ _).alloc (Nat.le_refl _) _)).mono ?_
  rintro e w1 ⟨rfl, hb1⟩
  rw [World.size_alloc] at hb1
  have HB1 : Hid (Below (w.heap.size + 1) (w.alloc (.cells #[.int .i64 0, .slice none 0 0] 56)) w1) := hb1
  have hz1 : w.heap.size + 1 ≤ w1.heap.size := by have := hb1.size; rwa [World.size_alloc] at this
  have HBw : Hid (Below w.heap.size w w1) := ((Below.refl _ _).alloc (Nat.le_refl _) _).trans (hb1.mono (Nat.le_succ _))
  clear hb1 HJ
  have hf := tfieldU jc t
  go_wp2_with fail
  refine (HP.out _ HBw.out).mono ?_
  rintro e w2 ⟨⟨v, rfl, ho⟩, hb2⟩
  obtain ⟨va, vc, hv, _⟩ := ho.at
  generalize (parseL t).length = vn at hv
  subst hv
  obtain ⟨c, hcc⟩ : ∃ c, Hid (parseC t = c) := ⟨_, rfl⟩
  rw [hcc.out]
  have hb := HB1.out.trans (hb2.mono hz1)
  have p0 : w2.cell? ⟨w.heap.size, 0, none⟩ = some (.int .i64 0) := by rw [hb.cell (p := ⟨w.heap.size, 0, none⟩) (by simp)]; simp
  have p1 : w2.cell? ⟨w.heap.size, 1, none⟩ = some (.slice none 0 0) := by rw [hb.cell (p := ⟨w.heap.size, 1, none⟩) (by simp)]; simp
  have f0 : w2.frozen? ⟨w.heap.size, 0, none⟩ = false := by rw [hb.frozen (p := ⟨w.heap.size, 0, none⟩) (by simp)]; simp
  have f1 : w2.frozen? ⟨w.heap.size, 1, none⟩ = false := by rw [hb.frozen (p := ⟨w.heap.size, 1, none⟩) (by simp)]; simp
  have KB : Hid (Below w.heap.size w w2) := HBw.out.trans (hb2.mono HBw.out.size)
  have KO : Hid (OwnI w2 (w.heap.size + 1) (.slice va vn vc) (parseL t)) := ho.lower hz1
  clear hb hb2 ho HB1 HBw HP hf
  obtain ⟨q0, q1⟩ := two_set (v0 := .int .i64 c) (v1 := .slice va vn vc) p0 p1
  go_wp2_with fail
  refine bodyPost_ret (v := .agg #[.int .i64 c, .slice va vn vc]) (by simp [results, Tryz.results25, go_sem, q0, q1]) rfl ⟨ParseOut.mk ⟨hcc.out, rfl⟩ ?_, (KB.out.setCell (Nat.le_refl _) _).setCell (Nat.le_refl _) _⟩
  exact ((own_set (own_set KO.out (Nat.lt_succ_self _)) (Nat.lt_succ_self _))).lower (Nat.le_succ _)
end Go.Proofs.YtgfbahjpaaanoaaGreatDoor
