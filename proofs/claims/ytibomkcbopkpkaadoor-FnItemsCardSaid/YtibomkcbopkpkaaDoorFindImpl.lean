/-
  What FindItem answers.
-/
import Derived.Test.YtibomkcbopkpkaaDoorFields
import Derived.Test.YtibomkcbopkpkaaDoorItemsEq
import Derived.Test.YtibomkcbopkpkaaDoorLowMine
import Derived.Test.YtibomkcbopkpkaaDoorWordLaid
namespace Go.Proofs.YtibomkcbopkpkaaDoor
open Go.ChangeShapes Go.WideShapes Go.ChangeAt Go.RowKit Go.Sort
def lwC (s : ByteArray) : Int := if 1000 < s.size then 2 else 0
def lwT (s : ByteArray) : ByteArray := if 1000 < s.size then ⟨#[]⟩ else lowS s
theorem implLower_fn (s : ByteArray) (w : World) : Calls Tryd.prog 9 #[.string s] w fun e w' => e = .returned (.agg #[.int .i64 (lwC s), .string (lwT s)]) ∧ Below w.heap.size w w' := by
  by_cases h : 1000 < s.size
  · rw [show lwC s = 2 from by simp [lwC, h], show lwT s = ⟨#[]⟩ from by simp [lwT, h]]
    exact implLower_long s w h
  · rw [show lwC s = 0 from by simp [lwC, h], show lwT s = lowS s from by simp [lwT, h]]
    exact implLower_any s w (by omega)
theorem word_size {s : ByteArray} (h : wordS s = true) : 1 ≤ s.size ∧ s.size ≤ 64 := by
  constructor
  · by_cases c : s.size < 1
    · rw [wordS_short s c] at h; cases h
    · omega
  · by_cases c : 64 < s.size
    · rw [wordS_long s c] at h; cases h
    · omega
theorem lowS_sz (s : ByteArray) : (lowS s).size = s.size := by
  have h : (lowS s).data.toList.length = s.data.toList.length := by simp [lowS]
  simpa using h
theorem low_same {rn name : ByteArray} (h : wordS name = true) : lwT rn = lowS name ↔ lowS rn = lowS name := by
  obtain ⟨h1, h2⟩ := word_size h
  unfold lwT
  split
  · rename_i hb
    constructor
    · intro e
      have h0 := congrArg ByteArray.size e
      rw [lowS_sz] at h0
      have h3 : (⟨#[]⟩ : ByteArray).size = 0 := rfl
      omega
    · intro e
      have := congrArg ByteArray.size e
      rw [lowS_sz, lowS_sz] at this
      omega
  · exact Iff.rfl
theorem find_at {l : List Rec} {name : ByteArray} (h20 : ¬ 20 < l.length) (hw : wordS name = true) (x : Int) (hx : findR name 0 l = x) : (x < 0 → findC l name = 4 ∧ findV l name = 0) ∧ (¬ x < 0 → findC l name = 0 ∧ findV l name = x) := by
  subst hx
  constructor
  · intro hn
    have ec : findC l name = 4 := by simp only [findC]; rw [if_neg h20, if_pos hw, if_pos hn]
    exact ⟨ec, by unfold findV; rw [ec]; rfl⟩
  · intro hn
    have ec : findC l name = 0 := by simp only [findC]; rw [if_neg h20, if_pos hw, if_neg hn]
    exact ⟨ec, by unfold findV; rw [ec]; rfl⟩
theorem ret_ii {a b c d : Int} (h : c = a ∧ d = b) : Ending.returned (.agg #[.int .i64 a, .int .i64 b]) = .returned (.agg #[.int .i64 c, .int .i64 d]) := by rw [h.1, h.2]
set_option maxRecDepth 100000 in
set_option maxHeartbeats 4000000 in
theorem implFind_word (w : World) (a : Option Addr) (cap : Nat) (l : List Rec) (name : ByteArray) (hset : SetIs w) (h20 : ¬ 20 < l.length) (hw : wordS name = true) (hi : l = [] ∨ ∃ b off, a = some ⟨b, off, none⟩ ∧ ItemsAt w b off l) :
    Calls Tryd.prog 32 #[.slice a l.length cap, .string name] w fun e w' => e = .returned (.agg #[.int .i64 (findC l name), .int .i64 (findV l name)]) ∧ Below w.heap.size w w' := by
  have HFC : Hid (∀ x, findR name 0 l = x → (x < 0 → findC l name = 4 ∧ findV l name = 0) ∧ (¬ x < 0 → findC l name = 0 ∧ findV l name = x)) := find_at h20 hw
  have HI : Hid (l = [] ∨ ∃ b off, a = some ⟨b, off, none⟩ ∧ ItemsAt w b off l) := hi
  have HS : Hid (SetIs w) := hset
  have HW : Hid (wordS name = true) := hw
  obtain ⟨z1, z2⟩ := word_size hw
  clear hi hset hw
  generalize hn : l.length = n at *
  have HN : Hid (l.length = n) := hn
  clear hn
  have g : ¬ (20 : Int) < (n : Int) := by omega
  go_enter Tryd.func32, Tryd.ntmps32
  go_wp2_with fail
  refine (implIsWord_set name _ (HS.out.below ((Below.refl _ _).alloc (Nat.le_refl _) _))).mono ?_
  rintro e w1 ⟨rfl, hb1⟩
  rw [HW.out]
  rw [World.size_alloc] at hb1
  go_wp2_with fail
  refine (implLower_any name w1 (by omega)).mono ?_
  rintro e w2 ⟨rfl, hb2⟩
  have hb2' : Below (w.heap.size + 1) (w.alloc (.cells #[.int .i64 0, .int .i64 0] 32)) w2 := hb1.trans (hb2.mono (by have := hb1.size; rwa [World.size_alloc] at this))
  have hz2 : w.heap.size + 1 ≤ w2.heap.size := by have := hb2'.size; rwa [World.size_alloc] at this
  clear hb1 hb2
  generalize hq : lowS name = q
  have HQ : Hid (q = lowS name) := hq.symm
  clear hq
  obtain ⟨W0, hW0⟩ : ∃ W0, W0 = w2.alloc (.cells #[.int .i64 0, .string q] 26) := ⟨_, rfl⟩
  have HB0 : Hid (Below (w.heap.size + 1) (w.alloc (.cells #[.int .i64 0, .int .i64 0] 32)) W0) := by
    show Below _ _ _
    rw [hW0]; exact hb2'.alloc hz2 _
  have HC0 : Hid (W0.cell? ⟨w2.heap.size, 1, none⟩ = some (.string q)) := by show _ = _; rw [hW0]; simp
  have HWW : Hid (W0 = w2.alloc (.cells #[.int .i64 0, .string q] 26)) := hW0
  clear hW0 hb2'
  go_wp2_with fail
  rw [← HWW.out]
  clear HWW
  generalize w2.heap.size = Bw at *
  clear w2 w1
  go_loopw [20] (fun i wr => ∃ k : Nat, k ≤ n ∧ i = .int .i64 k ∧ findR name 0 l = findR name k (l.drop k) ∧ Below W0.heap.size W0 wr) (fun i _ => n - (intOf i).toNat)
  case atStart => exact ⟨0, Nat.zero_le _, rfl, rfl, Below.refl _ _⟩
  case round =>
    obtain ⟨k, hk, rfl, hf, hb⟩ := hrel
    have HF : Hid (findR name 0 l = findR name k (l.drop k)) := hf
    clear hf
    have hzW : w.heap.size + 1 ≤ W0.heap.size := by have := HB0.out.size; rwa [World.size_alloc] at this
    have HBr : Hid (Below (w.heap.size + 1) (w.alloc (.cells #[.int .i64 0, .int .i64 0] 32)) wr) := HB0.out.trans (hb.mono hzW)
    by_cases hlt : k < n
    · obtain ⟨r, hr⟩ : ∃ r, l[k]? = some r := ⟨l[k]'(by have := HN.out; omega), List.getElem?_eq_getElem _⟩
      rcases HI.out with h | ⟨b, off, rfl, hat⟩
      · subst h; simp at hr
      have hwr : Below w.heap.size w wr := ((Below.refl _ _).alloc (Nat.le_refl _) _).trans (HBr.out.mono (Nat.le_succ _))
      obtain ⟨p1, p2, p3⟩ := (hat.keep hwr) k r hr
      have HG : Hid (findR name 0 l = if lowS r.name = lowS name then (k : Int) else findR name (k + 1) (l.drop (k + 1))) := by
        show _ = _
        rw [HF.out, drop_rec l k r hr, findR]
      have gk : (k : Int) < n := by omega
      have c5 := f_keep hb HC0.out
      clear HF hr hat HI
      obtain ⟨rn, rh, rv⟩ := r
      simp only at p1 p2 p3 HG
      obtain ⟨W, hW⟩ : ∃ W, W = wr.alloc (.cells #[.string rn, .bool rh, .string rv] 80) := ⟨_, rfl⟩
      have HWW : Hid (W = wr.alloc (.cells #[.string rn, .bool rh, .string rv] 80)) := hW
      have C1 : Hid (W.cell? ⟨wr.heap.size, 0, none⟩ = some (.string rn) ∧ W.cell? ⟨Bw, 1, none⟩ = some (.string q) ∧ Below W0.heap.size W0 W) := by
        refine ⟨by rw [hW]; simp, by rw [hW]; exact f_keepA _ c5, by rw [hW]; exact hb.alloc hb.size _⟩
      clear hW c5
      go_wp2_with fail
      rw [← HWW.out]
      clear HWW p1 p2 p3 hwr
      obtain ⟨c1, c2, hbW⟩ := C1.out
      clear C1
      have HBW : Hid (Below W0.heap.size W0 W) := hbW
      clear hbW
      generalize wr.heap.size = Br at *
      have q1 := cell_regrown c1
      have q2 := cell_regrown c2
      have SQ : Hid (∀ w, Calls Tryd.prog 9 #[.string rn] w fun e w' => e = .returned (.agg #[.int .i64 (lwC rn), .string (lwT rn)]) ∧ Below w.heap.size w w') := implLower_fn rn
      have hf2 := f_field_text
      by_cases he : lwT rn = lowS name
      · have HE : Hid (findR name 0 l = (k : Int)) := by show _ = _; rw [HG.out, if_pos ((low_same HW.out).1 he)]
        rw [he, ← HQ.out] at SQ
        generalize lwC rn = lc at *
        have cSQ : ∀ d' os, Calls Tryd.prog 9 #[.string rn] (grow (redrawn W d') os) fun e w'' => e = .returned (.agg #[.int .i64 lc, .string q]) ∧ ∃ p : Regrown, w'' = grow (redrawn W p.d) p.os := fun d' os => Calls.regrown_of (SQ.out _)
        clear he HG
        refine wp_region_quiet_below (by kernel_rfl) (by kernel_rfl) ?_
        repeat (go_big_quiet_step (first | (go_at_call 9; exact cSQ _ _)))
        refine wpQuiet_nil ?_
        intro W2 hW2
        have hbW2 : Below W.heap.size W W2 := by
          obtain ⟨⟨d, os⟩, rfl⟩ := hW2
          exact below_regrown W d os
        have hb02 : Below (w.heap.size + 1) (w.alloc (.cells #[.int .i64 0, .int .i64 0] 32)) W2 := HB0.out.trans ((HBW.out.trans (hbW2.mono HBW.out.size)).mono hzW)
        obtain ⟨hz, p0, p1, f0, f1, kb⟩ := int_room hb02
        obtain ⟨r0, r1⟩ := two_set (v0 := .int .i64 0) (v1 := .int .i64 k) p0 p1
        have hk0 : ¬ (k : Int) < 0 := by omega
        clear hW2 hbW2 hb02 cSQ q1 q2 c1 c2 SQ HBr HB0 HC0
        go_wp2_with fail
        exact bodyPost_ret (v := .agg #[.int .i64 0, .int .i64 k]) (by simp [results, Tryd.results32, go_sem, r0, r1]) rfl ⟨ret_ii ((HFC.out _ HE.out).2 hk0), (kb.setCell (Nat.le_refl _) _).setCell (Nat.le_refl _) _⟩
      · have HE : Hid (findR name 0 l = findR name (k + 1) (l.drop (k + 1))) := by show _ = _; rw [HG.out, if_neg (fun x => he ((low_same HW.out).2 x))]
        have hne : lwT rn ≠ q := by rw [HQ.out]; exact he
        have hq := str_ne hne
        generalize lwT rn = lt at *
        generalize lwC rn = lc at *
        have cSQ : ∀ d' os, Calls Tryd.prog 9 #[.string rn] (grow (redrawn W d') os) fun e w'' => e = .returned (.agg #[.int .i64 lc, .string lt]) ∧ ∃ p : Regrown, w'' = grow (redrawn W p.d) p.os := fun d' os => Calls.regrown_of (SQ.out _)
        clear he HG hne
        refine wp_region_quiet_below (by kernel_rfl) (by kernel_rfl) ?_
        repeat (go_big_quiet_step (first | (go_at_call 9; exact cSQ _ _)))
        refine wpQuiet_nil ?_
        intro W2 hW2
        have hbW2 : Below W.heap.size W W2 := by
          obtain ⟨⟨d, os⟩, rfl⟩ := hW2
          exact below_regrown W d os
        have hb02 : Below W0.heap.size W0 W2 := HBW.out.trans (hbW2.mono HBW.out.size)
        clear hW2 hbW2 cSQ q1 q2 c1 c2 SQ HBr HB0 HC0
        go_wp2_with fail
        go_roundw
        case rel => exact ⟨k + 1, by omega, by go_num, HE.out, hb02⟩
        case measure => simp [intOf]; omega
    · have HE : Hid (findR name 0 l = -1) := by
        show _ = _
        rw [HF.out, List.drop_of_length_le (by have := HN.out; omega), findR]
      clear HF
      obtain ⟨hz, p0, p1, f0, f1, kb⟩ := int_room HBr.out
      obtain ⟨r0, r1⟩ := two_set (v0 := .int .i64 4) (v1 := .int .i64 0) p0 p1
      clear HBr HB0 HC0
      go_wp2_with fail
      exact bodyPost_ret (v := .agg #[.int .i64 4, .int .i64 0]) (by simp [results, Tryd.results32, go_sem, r0, r1]) rfl ⟨ret_ii ((HFC.out _ HE.out).1 (by decide)), (kb.setCell (Nat.le_refl _) _).setCell (Nat.le_refl _) _⟩
set_option maxHeartbeats 1000000 in
theorem implFind_any (w : World) (a : Option Addr) (cap : Nat) (l : List Rec) (name : ByteArray) (hset : SetIs w) (hi : l = [] ∨ ∃ b off, a = some ⟨b, off, none⟩ ∧ ItemsAt w b off l) :
    Calls Tryd.prog 32 #[.slice a l.length cap, .string name] w fun e w' => e = .returned (.agg #[.int .i64 (findC l name), .int .i64 (findV l name)]) ∧ Below w.heap.size w w' := by
  by_cases h20 : 20 < l.length
  · have ec : findC l name = 2 := by simp [findC, h20]
    have ev : findV l name = 0 := by simp [findV, ec]
    rw [ec, ev]
    have g : (20 : Int) < (l.length : Int) := by omega
    clear ec ev hset
    go_enter Tryd.func32, Tryd.ntmps32
    go_wp2
    exact bodyPost_ret (v := .agg #[.int .i64 2, .int .i64 0]) (by simp [results, Tryd.results32, go_sem]) rfl ⟨rfl, (Below.refl _ _).alloc (Nat.le_refl _) _⟩
  have g : ¬ (20 : Int) < (l.length : Int) := by omega
  cases hw : wordS name
  · have ec : findC l name = 5 := by simp [findC, h20, hw]
    have ev : findV l name = 0 := by simp [findV, ec]
    rw [ec, ev]
    have HW : Hid (wordS name = false) := hw
    have HS : Hid (SetIs w) := hset
    clear ec ev hw hset hi
    go_enter Tryd.func32, Tryd.ntmps32
    go_wp2_with fail
    refine (implIsWord_set name _ (HS.out.below ((Below.refl _ _).alloc (Nat.le_refl _) _))).mono ?_
    rintro e w1 ⟨rfl, hb1⟩
    rw [HW.out]
    rw [World.size_alloc] at hb1
    obtain ⟨hz, p0, p1, f0, f1, kb⟩ := int_room hb1
    obtain ⟨r0, r1⟩ := two_set (v0 := .int .i64 5) (v1 := .int .i64 0) p0 p1
    clear hb1
    go_wp2
    exact bodyPost_ret (v := .agg #[.int .i64 5, .int .i64 0]) (by simp [results, Tryd.results32, go_sem, r0, r1]) rfl ⟨rfl, (kb.setCell (Nat.le_refl _) _).setCell (Nat.le_refl _) _⟩
  · exact implFind_word w a cap l name hset h20 hw hi
end Go.Proofs.YtibomkcbopkpkaaDoor
