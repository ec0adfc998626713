/-
  What ReadHeaders and its model answer.
-/
import Derived.Test.YthlenlijdlfdeaaDoorHReadSpec
import Derived.Shelf.Strings.Cut
import Derived.Shelf.Strings.Prefix
namespace Go.Proofs.YthlenlijdlfdeaaDoor
open Go.ChangeShapes Go.WideShapes Go.ChangeAt Go.RowKit Go.Sort
set_option maxHeartbeats 2000000 in
theorem specRead_any (s : ByteArray) (w : World) :
    Calls Tryd.prog 21 #[.string s] w fun e w' => HRes (readHC s) (readHL s) w.heap.size e w' ∧ Below w.heap.size w w' := by
  by_cases hs : 6000 < s.size
  · have hh : (6000 : Int) < s.size := by omega
    have HL : Hid (readHC s = 2 ∧ readHL s = []) := readH_long hs
    go_enter Tryd.func21, Tryd.ntmps21
    go_wp2
    exact bodyPost_ret (v := .agg #[.int .i64 2, .slice none 0 0]) (by simp [results, Tryd.results21, go_sem]) rfl ⟨HRes.mk HL.out (OwnH.nil _ _), (Below.refl _ _).alloc (Nat.le_refl _) _⟩
  have hh : ¬ (6000 : Int) < s.size := by omega
  have HP : Hid (∀ W, Calls Tryd.prog 57 #[.string s] W fun e w' => HReadRes s W.heap.size e w' ∧ Below W.heap.size W w') := fun W => l4Read_any s W hs
  clear hs
  go_enter Tryd.func21, Tryd.ntmps21
  go_wp2_with fail
  refine (HP.out _).mono ?_
  rintro e w1 ⟨⟨v, rfl, ho⟩, hb⟩
  simp only [World.size_alloc] at ho hb
  obtain ⟨hz, q0, q1, f0, f1, kb⟩ := heads_room hb
  obtain ⟨va, vc, hv, _⟩ := ho.at
  generalize hn : (readHL s).length = vn at hv
  subst hv
  obtain ⟨c, hc⟩ : ∃ c, Hid (readHC s = c) := ⟨_, rfl⟩
  rw [hc.out]
  have KO : Hid (OwnH w1 (w.heap.size + 1) (.slice va vn vc) (readHL s)) := ho
  obtain ⟨r0, r1⟩ := two_set (v0 := .int .i64 c) (v1 := .slice va vn vc) q0 q1
  clear hb ho HP hn
  go_wp2_with fail
  exact bodyPost_ret (v := .agg #[.int .i64 c, .slice va vn vc]) (by simp [results, Tryd.results21, go_sem, r0, r1]) rfl ⟨HRes.mk ⟨hc.out, rfl⟩ ((ownH_set (ownH_set KO.out (Nat.lt_succ_self _)) (Nat.lt_succ_self _)).lower (Nat.le_succ _)), (kb.setCell (Nat.le_refl _) _).setCell (Nat.le_refl _) _⟩
/-- The library's own variable holds some number. -/
def MaxIs (w : World) : Prop := ∃ m, w.cell? ⟨1, 0, none⟩ = some (.int .i64 m)
theorem MaxIs.below {w w' : World} (h : MaxIs w) (hb : Below w.heap.size w w') : MaxIs w' := by
  obtain ⟨m, h⟩ := h
  exact ⟨m, hkeep hb h⟩
theorem below_drewN (w : World) (n : Nat) : Below w.heap.size w (w.drewN n) :=
  have h := Below.refl w.heap.size w
  ⟨h.os, h.tape, h.output, h.size, h.block⟩
theorem hcut_cr (l : List UInt8) (w : World) (hm : MaxIs w) (hl : l.length ≤ 6000) (h : crAt l < l.length) :
    Calls Tryd.prog 51 #[.string (hmk l), .string ⟨#[13, 10]⟩] w fun e w' => e = .returned (.tuple #[.string (hmk (l.take (crAt l))), .string (hmk (l.drop (crAt l + 2))), .bool true]) ∧ Below w.heap.size w w' := by
  obtain ⟨m, hm⟩ := hm
  have := Any.strings_Cut Tryd.laysM145.ton145 (hmk l) ⟨#[13, 10]⟩ m w (by rw [hmk_size]; omega) hm
  rw [hmk_list, show (⟨#[13, 10]⟩ : ByteArray).data.toList = [13, 10] from rfl, cut_cr h] at this
  exact this.mono fun e w' ⟨h1, n, h2⟩ => ⟨h1, h2 ▸ below_drewN w n⟩
theorem hcut_cl (l : List UInt8) (w : World) (hm : MaxIs w) (hl : l.length ≤ 6000) (h : clAt l < l.length) :
    Calls Tryd.prog 51 #[.string (hmk l), .string ⟨#[58]⟩] w fun e w' => e = .returned (.tuple #[.string (hmk (l.take (clAt l))), .string (hmk (l.drop (clAt l + 1))), .bool true]) ∧ Below w.heap.size w w' := by
  obtain ⟨m, hm⟩ := hm
  have := Any.strings_Cut Tryd.laysM145.ton145 (hmk l) ⟨#[58]⟩ m w (by rw [hmk_size]; omega) hm
  rw [hmk_list, show (⟨#[58]⟩ : ByteArray).data.toList = [58] from rfl, cut_cl h] at this
  exact this.mono fun e w' ⟨h1, n, h2⟩ => ⟨h1, h2 ▸ below_drewN w n⟩
theorem hcut_no (l : List UInt8) (w : World) (hm : MaxIs w) (hl : l.length ≤ 6000) (h : ¬ clAt l < l.length) :
    Calls Tryd.prog 51 #[.string (hmk l), .string ⟨#[58]⟩] w fun e w' => e = .returned (.tuple #[.string (hmk l), .string ⟨#[]⟩, .bool false]) ∧ Below w.heap.size w w' := by
  obtain ⟨m, hm⟩ := hm
  have := Any.strings_Cut Tryd.laysM145.ton145 (hmk l) ⟨#[58]⟩ m w (by rw [hmk_size]; omega) hm
  rw [hmk_list, show (⟨#[58]⟩ : ByteArray).data.toList = [58] from rfl, cut_cl_no h] at this
  exact this.mono fun e w' ⟨h1, n, h2⟩ => ⟨h1, h2 ▸ below_drewN w n⟩
theorem hsuffix (s : ByteArray) (w : World) (hs : s.size ≤ 6000) (h0 : ¬ s.data.toList = []) :
    Calls Tryd.prog 50 #[.string s, .string ⟨#[13, 10]⟩] w fun e w' => e = .returned (.bool (linesO s.data.toList).isSome) ∧ w' = w := by
  have := Any.strings_HasSuffix Tryd.lays100 s ⟨#[13, 10]⟩ w (by omega)
  rw [show Lib.hasSuffix s.data.toList (⟨#[13, 10]⟩ : ByteArray).data.toList = (linesO s.data.toList).isSome from (linesO_suffix _ _ (Nat.le_refl _) h0).symm] at this
  exact this
theorem hmk_empty {l : List UInt8} (h : ¬ l = []) : (hmk l).toList.isEmpty = false := by
  rw [ByteArray.toList_eq, hmk_list]
  cases l with
  | nil => exact absurd rfl h
  | cons c r => rfl
theorem str_hmk (s : ByteArray) : s = hmk s.data.toList := by cases s; simp [hmk]
theorem linesO_found {l : List UInt8} (h0 : ¬ l = []) (h : (linesO l).isSome = true) : crAt l < l.length ∧ (linesO (l.drop (crAt l + 2))).isSome = true := by
  by_cases c : crAt l < l.length
  · refine ⟨c, ?_⟩
    rw [linesO_cut c, Option.isSome_map] at h
    exact h
  · rw [linesO_bad h0 c] at h; cases h
theorem readT_none_of {l : List UInt8} (h : (linesO l).isSome = false) : readT l = none := by
  cases c : linesO l with
  | none => exact readT_of_none c
  | some P => rw [c] at h; cases h
def strLen : Value → Nat
  | .string b => b.size
  | _ => 0
theorem trim_hmk (l : List UInt8) (h : l.length ≤ 6000) : (trimT (hmk l)).size ≤ 6000 := by
  have := trimT_size (hmk l)
  rw [hmk_size] at this
  omega
/-- The loop of ReadHeaders: what is read, and what is left. -/
structure ReadAt (s : ByteArray) (R : List Hdr) (rl : List UInt8) : Prop where
  eq : readT s.data.toList = (readT rl).map (R ++ ·)
  isS : (linesO rl).isSome = true
  len : R.length + rl.length ≤ 6000
theorem ReadAt.take {s : ByteArray} {R : List Hdr} {rl : List UInt8} (h : ReadAt s R rl) (h0 : ¬ rl = []) (hc : clAt (rl.take (crAt rl)) < (rl.take (crAt rl)).length) : ReadAt s (R ++ [lineOf (rl.take (crAt rl))]) (rl.drop (crAt rl + 2)) := by
  obtain ⟨h1, h2⟩ := linesO_found h0 h.isS
  have := crAt_room rl h1
  refine ⟨?_, h2, ?_⟩
  · rw [h.eq, readT_take h1 hc, Option.map_map]
    congr 1
    funext x
    simp
  · have hl := h.len
    simp only [List.length_append, List.length_cons, List.length_nil, List.length_drop]
    omega
theorem ReadAt.bad {s : ByteArray} {R : List Hdr} {rl : List UInt8} (h : ReadAt s R rl) (h0 : ¬ rl = []) (hc : ¬ clAt (rl.take (crAt rl)) < (rl.take (crAt rl)).length) : readT s.data.toList = none := by
  rw [h.eq, readT_bad (linesO_found h0 h.isS).1 hc]
  rfl
theorem ReadAt.done {s : ByteArray} {R : List Hdr} (h : ReadAt s R []) : readT s.data.toList = some R := by
  rw [h.eq, readT_nil]
  simp
set_option maxRecDepth 100000 in
set_option maxHeartbeats 16000000 in
theorem implRead_loop (s : ByteArray) (w : World) (hs : ¬ 6000 < s.size) (hset : SetIs w) (hmx : MaxIs w) (hsome : (linesO s.data.toList).isSome = true) (hne : ¬ s.data.toList = []) :
    Calls Tryd.prog 16 #[.string s] w fun e w' => HRes (readHC s) (readHL s) w.heap.size e w' ∧ Below w.heap.size w w' := by
  have R5 : Hid (readT s.data.toList = none → readHC s = 5 ∧ readHL s = []) := fun h => readH_bad hs h
  have RF : Hid (∀ L, readT s.data.toList = some L → headsC L ≠ 0 → readHC s = headsC L ∧ readHL s = []) := fun L h1 h2 => readH_fault hs h1 h2
  have R0 : Hid (∀ L, readT s.data.toList = some L → headsC L = 0 → readHC s = 0 ∧ readHL s = L) := fun L h1 h2 => readH_ok hs h1 h2
  have hh : ¬ (6000 : Int) < s.size := by omega
  have HS : Hid (SetIs w) := hset
  have HMX : Hid (MaxIs w) := hmx
  have H0 : Hid (ReadAt s [] s.data.toList) := ⟨by simp, hsome, by rw [hsize_list]; simp; omega⟩
  have HSX : ¬ s.data.toList = [] → ∀ w, Calls Tryd.prog 50 #[.string s, .string ⟨#[13, 10]⟩] w fun e w' => e = .returned (.bool true) ∧ w' = w := fun h0 w => by
    have := hsuffix s w (by omega) h0
    rw [hsome] at this
    exact this
  have HEM := hmk_empty hne
  rw [← str_hmk] at HEM
  have HSK : Hid (.string s = Value.string (hmk s.data.toList)) := by show _ = _; rw [← str_hmk]
  have HSY := HSX hne
  clear hset hmx hsome hs HSX
  go_enter Tryd.func16, Tryd.ntmps16
  go_wp2_with fail
  refine (HSY _).mono ?_
  rintro e w1 ⟨rfl, rfl⟩
  clear HSY
  go_wp2_with fail
  go_loopw [3, 4] (fun v x wr => ∃ (R : List Hdr) (rl : List UInt8), x = .string (hmk rl) ∧ OwnH wr (w.heap.size + 1) v R ∧ ReadAt s R rl ∧ Below (w.heap.size + 1) (w.alloc (.cells #[.int .i64 0, .slice none 0 0] 31)) wr) (fun _ x _ => strLen x)
  case atStart => exact ⟨[], s.data.toList, HSK.out, OwnH.nil _ _, H0.out, Below.refl _ _⟩
  case round =>
    obtain ⟨R, rl, rfl, ho, hra, hb⟩ := hrel
    have HO : Hid (OwnH wr (w.heap.size + 1) u3 R) := ho
    have HR : Hid (ReadAt s R rl) := hra
    have hz : w.heap.size + 1 ≤ wr.heap.size := by have := hb.size; rwa [World.size_alloc] at this
    have HB : Hid (Below (w.heap.size + 1) (w.alloc (.cells #[.int .i64 0, .slice none 0 0] 31)) wr) := hb
    have hwr : Below w.heap.size w wr := (heads_room hb).2.2.2.2.2
    have HSr : Hid (SetIs wr) := HS.out.below hwr
    have HMr : Hid (MaxIs wr) := HMX.out.below hwr
    have hrl := hra.len
    clear ho hra hb H0 HSK HEM hwr
    by_cases h0 : rl = []
    · subst h0
      have HX : Hid (readT s.data.toList = some R) := HR.out.done
      obtain ⟨ra, rc, hra, hin⟩ := HO.out.at
      subst hra
      have HF := implHFault_any wr ra rc R (by omega) HSr.out hin
      clear HR hin HSr HMr
      rw [show hmk [] = ⟨#[]⟩ from rfl]
      by_cases hc : headsC R = 0
      · have HY : Hid (readHC s = 0 ∧ readHL s = R) := R0.out R HX.out hc
        rw [hc] at HF
        have HO2 : Hid (OwnH wr (w.heap.size + 1) (.slice ra R.length rc) R) := HO.out
        clear HX hc HO
        generalize R.length = rn at *
        go_wp2_with fail
        refine HF.mono ?_
        rintro e w2 ⟨rfl, hb2⟩
        obtain ⟨hz2, q0, q1, f0, f1, kb⟩ := heads_room (HB.out.trans (hb2.mono hz))
        obtain ⟨r0, r1⟩ := two_set (v0 := .int .i64 0) (v1 := .slice ra rn rc) q0 q1
        have HO3 : Hid (OwnH w2 (w.heap.size + 1) (.slice ra rn rc) R) := HO2.out.below hb2
        clear hb2 HB HO2 HF
        go_wp2_with fail
        exact bodyPost_ret (v := .agg #[.int .i64 0, .slice ra rn rc]) (by simp [results, Tryd.results16, go_sem, r0, r1]) rfl ⟨HRes.mk HY.out ((ownH_set (ownH_set HO3.out (Nat.lt_succ_self _)) (Nat.lt_succ_self _)).lower (Nat.le_succ _)), (kb.setCell (Nat.le_refl _) _).setCell (Nat.le_refl _) _⟩
      · have HY : Hid (readHC s = headsC R ∧ readHL s = []) := RF.out R HX.out hc
        generalize headsC R = fc at *
        clear HX HO
        generalize R.length = rn at *
        go_wp2_with fail
        refine HF.mono ?_
        rintro e w2 ⟨rfl, hb2⟩
        obtain ⟨hz2, q0, q1, f0, f1, kb⟩ := heads_room (HB.out.trans (hb2.mono hz))
        obtain ⟨r0, r1⟩ := two_set (v0 := .int .i64 fc) (v1 := .slice none 0 0) q0 q1
        clear hb2 HB HF
        go_wp2_with fail
        exact bodyPost_ret (v := .agg #[.int .i64 fc, .slice none 0 0]) (by simp [results, Tryd.results16, go_sem, r0, r1]) rfl ⟨HRes.mk HY.out (OwnH.nil _ _), (kb.setCell (Nat.le_refl _) _).setCell (Nat.le_refl _) _⟩
    · have hem := hmk_empty h0
      have hcr := (linesO_found h0 HR.out.isS).1
      have hroom := crAt_room rl hcr
      have HC1 : Hid (∀ W, MaxIs W → Calls Tryd.prog 51 #[.string (hmk rl), .string ⟨#[13, 10]⟩] W fun e w' => e = .returned (.tuple #[.string (hmk (rl.take (crAt rl))), .string (hmk (rl.drop (crAt rl + 2))), .bool true]) ∧ Below W.heap.size W w') := fun W h => hcut_cr rl W h (by omega) hcr
      have hpl : (rl.take (crAt rl)).length ≤ 6000 := by rw [List.length_take]; omega
      have hms : (hmk (rl.drop (crAt rl + 2))).size < (hmk rl).size := by rw [hmk_size, hmk_size, List.length_drop]; omega
      have HTK := HR.out.take h0
      have HBD := HR.out.bad h0
      generalize rl.take (crAt rl) = p at *
      generalize rl.drop (crAt rl + 2) = rr at *
      have HTK2 : Hid (clAt p < p.length → ReadAt s (R ++ [lineOf p]) rr) := HTK
      have HBD2 : Hid (¬ clAt p < p.length → readT s.data.toList = none) := HBD
      have hRl : R.length ≤ 6000 := by omega
      clear HTK HBD HR h0 hcr hroom hrl
      generalize hmk rl = rb at *
      by_cases hcl : clAt p < p.length
      · have HN : Hid (ReadAt s (R ++ [⟨hmk (p.take (clAt p)), trimT (hmk (p.drop (clAt p + 1)))⟩]) rr) := HTK2.out hcl
        have HC2 : Hid (∀ W, MaxIs W → Calls Tryd.prog 51 #[.string (hmk p), .string ⟨#[58]⟩] W fun e w' => e = .returned (.tuple #[.string (hmk (p.take (clAt p))), .string (hmk (p.drop (clAt p + 1))), .bool true]) ∧ Below W.heap.size W w') := fun W h => hcut_cl p W h hpl hcl
        have z1 : (hmk (p.take (clAt p))).size ≤ 6000 := by rw [hmk_size, List.length_take]; omega
        have hvl : (p.drop (clAt p + 1)).length ≤ 6000 := by rw [List.length_drop]; omega
        have z2 : (hmk (p.drop (clAt p + 1))).size ≤ 6000 := by rw [hmk_size]; exact hvl
        have z3 := trim_hmk _ hvl
        generalize hmk (p.take (clAt p)) = nb at *
        generalize hmk (p.drop (clAt p + 1)) = vb at *
        have HTR : Hid (∀ w, Calls Tryd.prog 52 #[.string vb, .string ⟨#[32, 9]⟩] w fun e w' => e = .returned (.string (trimT vb)) ∧ Below w.heap.size w w') := fun w => trim_big vb w (by omega)
        generalize trimT vb = tb at *
        generalize hmk p = pb at *
        clear HTK2 HBD2 hcl hvl
        go_wp2_with fail
        refine (HC1.out _ HMr.out).mono ?_
        rintro e w2 ⟨rfl, hb2⟩
        have HB2 : Hid (Below wr.heap.size wr w2) := hb2
        clear hb2
        go_wp2_with fail
        refine (HC2.out _ (HMr.out.below HB2.out)).mono ?_
        rintro e w3 ⟨rfl, hb3⟩
        have HB3 : Hid (Below wr.heap.size wr w3) := HB2.out.trans (hb3.mono HB2.out.size)
        clear hb3 HB2
        go_wp2_with fail
        refine (HTR.out _).mono ?_
        rintro e w4 ⟨rfl, hb4⟩
        have HB4 : Hid (Below wr.heap.size wr w4) := HB3.out.trans (hb4.mono HB3.out.size)
        clear hb4 HB3
        go_wp2_with fail
        refine (lineOf_any nb tb _ (by omega) (by omega)).mono ?_
        rintro e w5 ⟨rfl, hb5⟩
        have HB5 : Hid (Below wr.heap.size wr w5) := HB4.out.trans (hb5.mono HB4.out.size)
        have HO5 : Hid (OwnH w5 (w.heap.size + 1) u3 R) := HO.out.below HB5.out
        have HBw : Hid (Below (w.heap.size + 1) (w.alloc (.cells #[.int .i64 0, .slice none 0 0] 31)) w5) := HB.out.trans (HB5.out.mono hz)
        have hz5 : w.heap.size + 1 ≤ w5.heap.size := Nat.le_trans hz HB5.out.size
        clear hb5 HB4 HB5 HO HB HSr HMr
        go_wp2_with (at_builtin; refine wpList_append_hdr _ rfl (.tmp 42) (.tmp 47) rfl (w.heap.size + 1) _ R nb tb rfl rfl HO5.out (by omega) hz5 ?_; intro v6 w6 HO6 hb6 hz6 hk6)
        go_roundw
        case rel => exact ⟨R ++ [⟨nb, tb⟩], rr, rfl, HO6, HN.out, HBw.out.trans hb6⟩
        case measure => simpa [strLen] using hms
      · have HX : Hid (readHC s = 5 ∧ readHL s = []) := R5.out (HBD2.out hcl)
        have HC2 : Hid (∀ W, MaxIs W → Calls Tryd.prog 51 #[.string (hmk p), .string ⟨#[58]⟩] W fun e w' => e = .returned (.tuple #[.string (hmk p), .string ⟨#[]⟩, .bool false]) ∧ Below W.heap.size W w') := fun W h => hcut_no p W h hpl hcl
        generalize hmk p = pb at *
        clear HTK2 HBD2 hcl HO
        go_wp2_with fail
        refine (HC1.out _ HMr.out).mono ?_
        rintro e w2 ⟨rfl, hb2⟩
        have HB2 : Hid (Below wr.heap.size wr w2) := hb2
        clear hb2
        go_wp2_with fail
        refine (HC2.out _ (HMr.out.below HB2.out)).mono ?_
        rintro e w3 ⟨rfl, hb3⟩
        have HB3 : Below wr.heap.size wr w3 := HB2.out.trans (hb3.mono HB2.out.size)
        obtain ⟨hz2, q0, q1, f0, f1, kb⟩ := heads_room (HB.out.trans (HB3.mono hz))
        obtain ⟨r0, r1⟩ := two_set (v0 := .int .i64 5) (v1 := .slice none 0 0) q0 q1
        clear hb3 HB2 HB3 HB HMr HSr
        go_wp2_with fail
        exact bodyPost_ret (v := .agg #[.int .i64 5, .slice none 0 0]) (by simp [results, Tryd.results16, go_sem, r0, r1]) rfl ⟨HRes.mk HX.out (OwnH.nil _ _), (kb.setCell (Nat.le_refl _) _).setCell (Nat.le_refl _) _⟩
theorem readH_none : readHC ⟨#[]⟩ = 0 ∧ readHL ⟨#[]⟩ = [] := readH_ok (L := []) (by decide) readT_nil rfl
set_option maxRecDepth 100000 in
set_option maxHeartbeats 2000000 in
theorem implRead_none (w : World) (hset : SetIs w) :
    Calls Tryd.prog 16 #[.string ⟨#[]⟩] w fun e w' => HRes (readHC ⟨#[]⟩) (readHL ⟨#[]⟩) w.heap.size e w' ∧ Below w.heap.size w w' := by
  have HF := implHFault_any (w.alloc (.cells #[.int .i64 0, .slice none 0 0] 31)) none 0 [] (by simp) (hset.below ((Below.refl _ _).alloc (Nat.le_refl _) _)) (.inl rfl)
  rw [show headsC [] = 0 from rfl] at HF
  simp only [List.length_nil] at HF
  clear hset
  go_enter Tryd.func16, Tryd.ntmps16
  go_wp2_with fail
  go_loop [3, 4] (fun v x => v = .slice none 0 0 ∧ x = .string ⟨#[]⟩) (fun _ _ => 0)
  case atStart => exact ⟨rfl, rfl⟩
  case round =>
    obtain ⟨rfl, rfl⟩ := hrel
    go_wp2_with fail
    refine HF.mono ?_
    rintro e w2 ⟨rfl, hb2⟩
    rw [World.size_alloc] at hb2
    obtain ⟨hz2, q0, q1, f0, f1, kb⟩ := heads_room hb2
    obtain ⟨r0, r1⟩ := two_set (v0 := .int .i64 0) (v1 := .slice none 0 0) q0 q1
    clear hb2 HF
    go_wp2_with fail
    exact bodyPost_ret (v := .agg #[.int .i64 0, .slice none 0 0]) (by simp [results, Tryd.results16, go_sem, r0, r1]) rfl ⟨HRes.mk readH_none (OwnH.nil _ _), (kb.setCell (Nat.le_refl _) _).setCell (Nat.le_refl _) _⟩
set_option maxHeartbeats 2000000 in
theorem implRead_any (s : ByteArray) (w : World) (hset : SetIs w) (hmx : MaxIs w) :
    Calls Tryd.prog 16 #[.string s] w fun e w' => HRes (readHC s) (readHL s) w.heap.size e w' ∧ Below w.heap.size w w' := by
  by_cases hs : 6000 < s.size
  · have hh : (6000 : Int) < s.size := by omega
    have HL : Hid (readHC s = 2 ∧ readHL s = []) := readH_long hs
    clear hset hmx
    go_enter Tryd.func16, Tryd.ntmps16
    go_wp2
    exact bodyPost_ret (v := .agg #[.int .i64 2, .slice none 0 0]) (by simp [results, Tryd.results16, go_sem]) rfl ⟨HRes.mk HL.out (OwnH.nil _ _), (Below.refl _ _).alloc (Nat.le_refl _) _⟩
  cases hsm : (linesO s.data.toList).isSome
  · have h0 : ¬ s.data.toList = [] := fun e => by rw [e, linesO_nil] at hsm; cases hsm
    have HX : Hid (readHC s = 5 ∧ readHL s = []) := readH_bad hs (readT_none_of hsm)
    have HSX : Hid (∀ w, Calls Tryd.prog 50 #[.string s, .string ⟨#[13, 10]⟩] w fun e w' => e = .returned (.bool false) ∧ w' = w) := fun w => by
      have := hsuffix s w (by omega) h0
      rw [hsm] at this
      exact this
    have hem := hmk_empty h0
    rw [← str_hmk] at hem
    have hh : ¬ (6000 : Int) < s.size := by omega
    clear hset hmx hsm h0 hs
    go_enter Tryd.func16, Tryd.ntmps16
    go_wp2_with fail
    refine (HSX.out _).mono ?_
    rintro e w1 ⟨rfl, rfl⟩
    go_wp2_with fail
    exact bodyPost_ret (v := .agg #[.int .i64 5, .slice none 0 0]) (by simp [results, Tryd.results16, go_sem]) rfl ⟨HRes.mk HX.out (OwnH.nil _ _), (Below.refl _ _).alloc (Nat.le_refl _) _⟩
  · by_cases hne : s.data.toList = []
    · have e : s = ⟨#[]⟩ := by rw [str_hmk s, hne]; rfl
      subst e
      exact implRead_none w hset
    · exact implRead_loop s w hs hset hmx hsm hne
end Go.Proofs.YthlenlijdlfdeaaDoor
