/-
  Texts of one claim, one behind the other.
-/
import Derived.BigQuiet
import Derived.ChangeArms
import Derived.Deep.RegionHeld3
import Derived.Deep.RegionWith
import Derived.Lib.QuietBelow
import Derived.Shelf.Sort.Plain
import Derived.Shelf.Strings.FieldsFuncAny
import Derived.Sort.OwnSorted
import Derived.Test.YtojcjpdgjohldaaGreatDoorFkB
/-
  What queryPieces answers.
-/
namespace Go.Proofs.YtojcjpdgjohldaaGreatDoor
open Go.ChangeShapes Go.WideShapes Go.ChangeAt Go.RowKit
set_option maxHeartbeats 1000000 in
theorem amp_any (x : Nat) (w : World) : Calls Tryz.prog 141 #[.int .i32 (x : Int)] w fun e w' => e = .returned (.bool (amp x)) ∧ w' = w := by
  have HE : Hid (amp x = ((x : Int) == 38)) := by
    show _ = _
    unfold amp
    by_cases h : x = 38
    · subst h; rfl
    · rw [beq_eq_false_iff_ne.2 h, beq_eq_false_iff_ne.2 (by omega)]
  go_enter Tryz.func141, Tryz.ntmps141
  go_wp2
  go_ret
  exact ⟨by rw [HE.out]; rfl, rfl⟩
def qParts (s : ByteArray) : List (List UInt8) := fullP (cutG 38 [] s.data.toList)
theorem qParts_len (s : ByteArray) : (qParts s).length ≤ s.size + 1 := by
  have h1 := fullP_len (cutG 38 [] s.data.toList)
  have h2 := cutG_len 38 s.data.toList []
  rw [hsize_list] at h2
  unfold qParts
  omega
theorem fields_any (s : ByteArray) (w : World) (hs : s.size ≤ 6000) (ha : ∀ (i : Nat) (h : i < s.size), s[i].toNat < 128) :
    Calls Tryz.prog 140 #[.string s, .func (.func 141) #[] #[]] w fun e w' => ∃ A, e = .returned (.slice (some ⟨A, 0, none⟩) (qParts s).length (qParts s).length) ∧ OwnS w' w.heap.size (.slice (some ⟨A, 0, none⟩) (qParts s).length (qParts s).length) ((qParts s).map hmk) ∧ Below w.heap.size w w' := by
  have hp : PredAtRunes Tryz.prog 141 #[] amp w := fun W x _ _ => (amp_any x W).mono fun e w' ⟨h1, h2⟩ => ⟨h1, 0, by rw [h2]; rfl⟩
  have h := Any.strings_FieldsFunc_runes Tryz.lays229 141 #[] (enters_of Tryz.func141 (by kernel_rfl) rfl) amp s w (by omega) hp (by kernel_rfl) (by kernel_rfl)
  have e1 : Lib.goFieldsP amp s = (qParts s).map hmk := fields_amp s ha
  rw [e1, List.length_map] at h
  refine h.mono ?_
  rintro e w' ⟨A, h1, _, h3, h4⟩
  refine ⟨A, h1, ?_, h4⟩
  unfold OwnS textsW
  rw [List.length_map]
  exact h3
theorem textsW_enc (l : List (List UInt8)) : textsW (l.map hmk) = l.map encStr := by
  unfold textsW
  rw [List.map_map]
  rfl
theorem sort_own (P : List (List UInt8)) (w w1 : World) (A : Nat) (hP : P.length ≤ 6001) (ho : OwnS w1 w.heap.size (.slice (some ⟨A, 0, none⟩) P.length P.length) (P.map hmk)) (hb : Below w.heap.size w w1) :
    Calls Tryz.prog 142 #[.slice (some ⟨A, 0, none⟩) P.length P.length] w1 fun e w' => e = .returned (.tuple #[]) ∧ OwnS w' w.heap.size (.slice (some ⟨A, 0, none⟩) P.length P.length) ((sortS P).map hmk) ∧ Below w.heap.size w w' := by
  obtain ⟨h0, h1 | ⟨g, c, cur, e, hg, hh, hc1, hc2, hc3, hc4⟩⟩ := ho
  · exact absurd h1.1 (by simp)
  · simp only [Value.slice.injEq, Option.some.injEq, Addr.mk.injEq, and_true] at e
    obtain ⟨rfl, _, rfl⟩ := e
    rw [textsW_enc, List.length_map] at hc4
    rw [List.length_map] at hc1
    have hlt := (Array.getElem?_eq_some_iff.1 hh).1
    refine (Any.slices_Sort_string Tryz.lays190 A 0 P.length P w1 (holds_of_block hh (by simpa using hc4)) hlt (by omega)).mono ?_
    rintro e w2 ⟨rfl, n, os, rfl⟩
    rw [merge_eq]
    refine ⟨rfl, ?_, hb.grown (grownBy_sorted _) hb.size (fun j hj => by cases hj; exact hg)⟩
    have e2 := ownsRow_sorted (n := n) (os := os) (sortS_len P) hg hh hc1 hc2 (by simpa using hc3)
    unfold OwnS
    rw [textsW_enc, List.length_map, sortS_len]
    exact e2
set_option maxRecDepth 100000 in
set_option maxHeartbeats 2000000 in
theorem queryPieces_any (s : ByteArray) (w : World) (hs : s.size ≤ 6000) (ha : ∀ (i : Nat) (h : i < s.size), s[i].toNat < 128) :
    Calls Tryz.prog 96 #[.string s] w fun e w' => CutRes (sortS (qParts s)) w.heap.size e w' ∧ Below w.heap.size w w' := by
  have C := fields_any s w hs ha
  have hQ := qParts_len s
  generalize qParts s = P at *
  go_enter Tryz.func96, Tryz.ntmps96
  go_wp2_with fail
  refine C.mono ?_
  rintro e w1 ⟨A, rfl, ho, hb⟩
  have C2 := sort_own P w w1 A (by omega) ho hb
  clear ho hb C
  go_wp2_with fail
  refine C2.mono ?_
  rintro e w2 ⟨rfl, ho2, hb2⟩
  have HO : Hid (OwnS w2 w.heap.size (.slice (some ⟨A, 0, none⟩) P.length P.length) ((sortS P).map hmk)) := ho2
  have HB2 : Hid (Below w.heap.size w w2) := hb2
  clear C2 ho2 hb2
  go_wp2_with fail
  go_ret
  exact ⟨⟨_, rfl, HO.out⟩, HB2.out⟩
end Go.Proofs.YtojcjpdgjohldaaGreatDoor
/-
  What KeyOf and its model answer.
-/
namespace Go.Proofs.YtojcjpdgjohldaaGreatDoor
open Go.ChangeShapes Go.WideShapes Go.ChangeAt Go.RowKit
def keyR (m h p : ByteArray) (l : List Hdr) : ByteArray := if reqC m h p l = 0 then hmk (keyT h p) else ⟨#[]⟩
theorem keyR_ok {m h p : ByteArray} {l : List Hdr} (c : reqC m h p l = 0) : keyR m h p l = hmk (keyT h p) := by rw [keyR, if_pos c]
theorem keyR_bad {m h p : ByteArray} {l : List Hdr} (c : ¬ reqC m h p l = 0) : keyR m h p l = ⟨#[]⟩ := by rw [keyR, if_neg c]
set_option maxRecDepth 100000 in
set_option maxHeartbeats 4000000 in
theorem specKey_any (w : World) (m h p : ByteArray) (a : Option Addr) (cap : Nat) (l : List Hdr) (hl : l.length ≤ 1048576) (hi : HdsIn w a l) :
    Calls Tryz.prog 49 #[.agg #[.string m, .string h, .string p, .slice a l.length cap]] w fun e w' => e = .returned (.agg #[.int .i64 (reqC m h p l), .string (keyR m h p l)]) ∧ Below w.heap.size w w' := by
  obtain ⟨W, hW⟩ : ∃ W, W = (w.alloc (.cells #[.string m, .string h, .string p, .slice a l.length cap] 26)).alloc (.cells #[.int .i64 0, .string ⟨#[]⟩] 50) := ⟨_, rfl⟩
  have HW : Hid (W = (w.alloc (.cells #[.string m, .string h, .string p, .slice a l.length cap] 26)).alloc (.cells #[.int .i64 0, .string ⟨#[]⟩] 50)) := hW
  have bW : Below w.heap.size w W := by rw [hW]; exact ((Below.refl _ _).alloc (Nat.le_refl _) _).alloc (by simp) _
  have f0 : Four W w.heap.size (.string m) (.string h) (.string p) (.slice a l.length cap) := by rw [hW]; exact (Four.new _ _ _ _ _ _).keep ((Below.refl _ _).alloc (Nat.le_refl _) _)
  have t0 : Two W (w.heap.size + 1) (.int .i64 0) (.string ⟨#[]⟩) := by
    rw [hW]
    have := Two.new (w.alloc (.cells #[.string m, .string h, .string p, .slice a l.length cap] 26)) (.int .i64 0) (.string ⟨#[]⟩) 50
    simpa using this
  have C := specReq_any W m h p a cap l hl (hi.keep bW)
  have K0 : Hid (Below w.heap.size w W ∧ Four W w.heap.size (.string m) (.string h) (.string p) (.slice a l.length cap) ∧ Two W (w.heap.size + 1) (.int .i64 0) (.string ⟨#[]⟩)) := ⟨bW, f0, t0⟩
  have HCC : Hid ((reqC m h p l = 0 → keyR m h p l = hmk (keyT h p) ∧ h.size ≤ 60 ∧ p.size ≤ 100) ∧ (¬ reqC m h p l = 0 → keyR m h p l = ⟨#[]⟩)) := ⟨fun c0 => ⟨keyR_ok c0, (method_size (reqC_zero c0).1).2⟩, keyR_bad⟩
  clear hW bW f0 t0 hi
  generalize keyR m h p l = kr at *
  generalize reqC m h p l = c at *
  have hc3 := K0.out.2.1.c3
  rw [HW.out] at hc3
  go_enter Tryz.func49, Tryz.ntmps49
  go_wp2_with fail
  rw [← HW.out]
  refine C.mono ?_
  rintro e w1 ⟨rfl, hb1⟩
  have K1 : Hid (Below w.heap.size w w1 ∧ Four w1 w.heap.size (.string m) (.string h) (.string p) (.slice a l.length cap) ∧ Two w1 (w.heap.size + 1) (.int .i64 0) (.string ⟨#[]⟩)) := ⟨K0.out.1.trans (hb1.mono K0.out.1.size), K0.out.2.1.keep hb1, K0.out.2.2.keep hb1⟩
  clear C hb1 K0 HW hc3
  by_cases c0 : c = 0
  · subst c0
    obtain ⟨z1, z2, z3⟩ := HCC.out.1 rfl
    have C5 := l5Key_any w1 w.heap.size m h p _ K1.out.2.1 z2 z3
    have HR : Hid (kr = hmk (keyT h p)) := z1
    clear z1 HCC
    generalize hmk (keyT h p) = kt at *
    go_wp2_with fail
    refine C5.mono ?_
    rintro e w2 ⟨rfl, hb2⟩
    have K2 : Hid (Below w.heap.size w w2 ∧ Two w2 (w.heap.size + 1) (.int .i64 0) (.string ⟨#[]⟩)) := ⟨K1.out.1.trans (hb2.mono K1.out.1.size), K1.out.2.2.keep hb2⟩
    clear C5 hb2 K1
    obtain ⟨r0, r1, rf, _⟩ := K2.out.2
    have rf0 := rf 0
    have rf1 := rf 1
    clear rf
    go_wp2_with fail
    have T2 := two_put (v0 := .int .i64 0) (v1 := .string kt) K2.out.2
    exact bodyPost_ret (v := .agg #[.int .i64 0, .string kt]) (by simp [results, Tryz.results49, go_sem, T2.c0, T2.c1]) rfl ⟨by rw [HR.out], (K2.out.1.setCell (by simp) _).setCell (by simp) _⟩
  · have HR : Hid (kr = ⟨#[]⟩) := HCC.out.2 c0
    obtain ⟨r0, r1, rf, _⟩ := K1.out.2.2
    have rf0 := rf 0
    have rf1 := rf 1
    clear rf HCC
    go_wp2_with fail
    have T2 := two_put (v0 := .int .i64 c) (v1 := .string ⟨#[]⟩) K1.out.2.2
    exact bodyPost_ret (v := .agg #[.int .i64 c, .string ⟨#[]⟩]) (by simp [results, Tryz.results49, go_sem, T2.c0, T2.c1]) rfl ⟨by rw [HR.out], (K1.out.1.setCell (by simp) _).setCell (by simp) _⟩
/-! ### KeyOf itself -/
theorem qAt_pat : ∀ l : List UInt8, qAt l = patAt [63] l
  | [] => rfl
  | x :: r => by
    rw [qAt, patAt, pre_one, qAt_pat r]
    by_cases h : x = 63
    · simp [h]
    · simp [h]; try omega
theorem kcut_any (p : ByteArray) (w : World) (hm : MaxIs w) (hp : p.size ≤ 6000) :
    Calls Tryz.prog 95 #[.string p, .string ⟨#[63]⟩] w fun e w' => e = .returned (.tuple #[.string (hmk (p.data.toList.take (qAt p.data.toList))), .string (hmk (p.data.toList.drop (qAt p.data.toList + 1))), .bool (decide (qAt p.data.toList < p.data.toList.length))]) ∧ Below w.heap.size w w' := by
  obtain ⟨m, hm⟩ := hm
  have h := Any.strings_Cut Tryz.laysM145.ton145 p ⟨#[63]⟩ m w (by omega) hm
  rw [show (⟨#[63]⟩ : ByteArray).data.toList = [63] from rfl] at h
  rw [qAt_pat]
  by_cases c : patAt [63] p.data.toList < p.data.toList.length
  · rw [cut_pat (by simp) c] at h
    rw [decide_eq_true c]
    exact h.mono fun e w' ⟨h1, n, h2⟩ => ⟨h1, h2 ▸ below_drewN w n⟩
  · rw [cut_pat_no (by simp) c] at h
    rw [decide_eq_false c, List.take_of_length_le (by omega), List.drop_of_length_le (by omega)]
    exact h.mono fun e w' ⟨h1, n, h2⟩ => ⟨h1, h2 ▸ below_drewN w n⟩
theorem join_amp (w : World) (base : Nat) (v : Value) (xs : List ByteArray) (h : OwnS w base v xs) (hN : xs.length ≤ 1000000) (hlen : (Lib.join (xs.map (·.data.toList)) [38]).length ≤ 1000000) :
    Calls Tryz.prog 97 #[v, .string ⟨#[38]⟩] w fun e w' => e = .returned (.string ⟨(Lib.join (xs.map (·.data.toList)) [38]).toArray⟩) ∧ Below w.heap.size w w' := by
  have h0 := h
  obtain ⟨_, h1 | ⟨g, c, cur, rfl, _, hh, hcap, _⟩⟩ := h
  · have : xs = [] := List.eq_nil_of_length_eq_zero h1.2
    subst this
    rw [h1.1]
    exact (Any.strings_Join_none Tryz.lays156 joinExtra none 0 ⟨#[38]⟩ w).mono fun e w' ⟨he, hw⟩ => ⟨he, hw ▸ Below.refl _ _⟩
  · refine Any.strings_Join Tryz.lays156 joinExtra g 0 c xs ⟨#[38]⟩ w ?_ (Array.getElem?_eq_some_iff.1 hh).1 (by omega) hcap (by simpa using (by omega : (Lib.join (xs.map (·.data.toList)) [38]).length ≤ 140737488355328))
    intro j x hj
    have hj2 := (List.getElem?_eq_some_iff.1 hj).1
    have := World.ownsRow.cellAt h0 j (by omega)
    rw [show 0 + j = j from by omega]
    rw [this]
    simp [textsW, hj]
theorem hmk_back (S : List (List UInt8)) : (S.map hmk).map (·.data.toList) = S := by
  rw [List.map_map]
  have : ((fun x : ByteArray => x.data.toList) ∘ hmk) = id := by funext x; simp [hmk]
  rw [this, List.map_id]
theorem path_ascii {p : ByteArray} (h : pathS p = true) (k : Nat) : ∀ (i : Nat) (hi : i < (hmk (p.data.toList.drop k)).size), (hmk (p.data.toList.drop k))[i].toNat < 128 := by
  intro i hi
  have hm : (hmk (p.data.toList.drop k))[i] ∈ p.data.toList := by
    have h1 : (hmk (p.data.toList.drop k))[i] ∈ (hmk (p.data.toList.drop k)).data.toList := by
      show (hmk (p.data.toList.drop k)).data[i] ∈ _
      exact Array.mem_toList_iff.2 (Array.getElem_mem _)
    rw [hmk_list] at h1
    exact List.mem_of_mem_drop h1
  have h2 : allP pathI p.data.toList = true := by
    simp only [pathS, Bool.and_eq_true] at h
    exact h.2
  have h3 := allP_mem h2 _ hm
  by_cases c : (hmk (p.data.toList.drop k))[i].toNat < 128
  · exact c
  · rw [pathI_big _ (by omega)] at h3; cases h3
set_option maxRecDepth 100000 in
set_option maxHeartbeats 8000000 in
theorem implKey_any (E : Errs) (w : World) (m h p : ByteArray) (a : Option Addr) (cap : Nat) (l : List Hdr) (hl : l.length ≤ 1048576) (hcap : l.length ≤ cap) (hps : p.size ≤ 1048576) (hset : SetIs w) (hE : ErrsIs w E) (hmx : MaxIs w) (hi : HdsIn w a l) :
    Calls Tryz.prog 33 #[.agg #[.string m, .string h, .string p, .slice a l.length cap]] w fun e w' => e = .returned (.agg #[.int .i64 (reqC m h p l), .string (keyR m h p l)]) ∧ Below w.heap.size w w' := by
  obtain ⟨W, hW⟩ : ∃ W, W = (w.alloc (.cells #[.string m, .string h, .string p, .slice a l.length cap] 26)).alloc (.cells #[.int .i64 0, .string ⟨#[]⟩] 50) := ⟨_, rfl⟩
  have HW : Hid (W = (w.alloc (.cells #[.string m, .string h, .string p, .slice a l.length cap] 26)).alloc (.cells #[.int .i64 0, .string ⟨#[]⟩] 50)) := hW
  have bW : Below w.heap.size w W := by rw [hW]; exact ((Below.refl _ _).alloc (Nat.le_refl _) _).alloc (by simp) _
  have f0 : Four W w.heap.size (.string m) (.string h) (.string p) (.slice a l.length cap) := by rw [hW]; exact (Four.new _ _ _ _ _ _).keep ((Below.refl _ _).alloc (Nat.le_refl _) _)
  have t0 : Two W (w.heap.size + 1) (.int .i64 0) (.string ⟨#[]⟩) := by
    rw [hW]
    have := Two.new (w.alloc (.cells #[.string m, .string h, .string p, .slice a l.length cap] 26)) (.int .i64 0) (.string ⟨#[]⟩) 50
    simpa using this
  have C := implReq_any E W m h p a cap l hl hcap hps (hset.below bW) (hE.below bW) (hi.keep bW)
  have K0 : Hid (Below w.heap.size w W ∧ Four W w.heap.size (.string m) (.string h) (.string p) (.slice a l.length cap) ∧ Two W (w.heap.size + 1) (.int .i64 0) (.string ⟨#[]⟩)) := ⟨bW, f0, t0⟩
  have HM : Hid (∀ X, Below w.heap.size w X → MaxIs X) := fun X hb => hmx.below hb
  have HCC : Hid ((reqC m h p l = 0 → keyR m h p l = hmk (keyT h p) ∧ lineS m h p = true ∧ h.size ≤ 60 ∧ p.size ≤ 100) ∧ (¬ reqC m h p l = 0 → keyR m h p l = ⟨#[]⟩)) := ⟨fun c0 => ⟨keyR_ok c0, (reqC_zero c0).1, (method_size (reqC_zero c0).1).2⟩, keyR_bad⟩
  clear hW bW f0 t0 hi hset hE hmx
  generalize keyR m h p l = kr at *
  generalize reqC m h p l = c at *
  have hc3 := K0.out.2.1.c3
  rw [HW.out] at hc3
  go_enter Tryz.func33, Tryz.ntmps33
  go_wp2_with fail
  rw [← HW.out]
  refine C.mono ?_
  rintro e w1 ⟨rfl, hb1⟩
  have K1 : Hid (Below w.heap.size w w1 ∧ Four w1 w.heap.size (.string m) (.string h) (.string p) (.slice a l.length cap) ∧ Two w1 (w.heap.size + 1) (.int .i64 0) (.string ⟨#[]⟩)) := ⟨K0.out.1.trans (hb1.mono K0.out.1.size), K0.out.2.1.keep hb1, K0.out.2.2.keep hb1⟩
  clear C hb1 K0 HW hc3
  by_cases c0 : c = 0
  · subst c0
    obtain ⟨z1, y1, z2, z3⟩ := HCC.out.1 rfl
    have C5 := kcut_any p w1 (HM.out w1 K1.out.1) (by omega)
    have HPA := path_ascii (lineS_true y1).2.2 (qAt p.data.toList + 1)
    obtain ⟨S, hS⟩ : ∃ S, S = sortS (qParts (hmk (p.data.toList.drop (qAt p.data.toList + 1)))) := ⟨_, rfl⟩
    have hSk : S = keyParts p.data.toList := by rw [hS]; unfold qParts keyParts; rw [hmk_list]
    have hSl : S.length ≤ 101 := by rw [hSk]; have := keyParts_len p.data.toList; rw [hsize_list] at this; omega
    have hSs : sumL S ≤ 100 := by rw [hSk]; have := keyParts_sum p.data.toList; rw [hsize_list] at this; omega
    have HQ : Hid (∀ X, Calls Tryz.prog 96 #[.string (hmk (p.data.toList.drop (qAt p.data.toList + 1)))] X fun e w' => CutRes S X.heap.size e w' ∧ Below X.heap.size X w') := fun X => by
      rw [hS]
      exact queryPieces_any _ X (by rw [hmk_size, List.length_drop, hsize_list]; omega) HPA
    have HL : Hid (∀ X, Calls Tryz.prog 34 #[.string h] X fun e w' => e = .returned (.agg #[.int .i64 0, .string (lowS h)]) ∧ Below X.heap.size X w') := fun X => implLower_any h X (by omega)
    obtain ⟨o0, ho0⟩ : ∃ o : ByteArray, o = lowS h ++ hmk (p.data.toList.take (qAt p.data.toList)) := ⟨_, rfl⟩
    have so0 : o0.size ≤ 160 := by rw [ho0, ByteArray.size_append, lowS_size, hmk_size, List.length_take, hsize_list]; omega
    have add0 : ∀ X, (Op.stringOp .add (lowS h) (hmk (p.data.toList.take (qAt p.data.toList)))).run Tryz.prog X = .ok (.string o0) X := fun X => by rw [ho0]; exact run_string_add_sum X _ _ (by rw [lowS_size, hmk_size, List.length_take, hsize_list]; omega)
    have HR : Hid (∀ t : ByteArray, t.data.toList = o0.data.toList ++ keyQ S → t = kr) := fun t ht => by
      rw [z1]
      refine hof_list ?_
      rw [ht, ho0, happ_list, hmk_list, keyT, hSk]
    clear ho0 hS hSk HPA y1 z1 HCC
    generalize lowS h = lw at *
    generalize hmk (p.data.toList.take (qAt p.data.toList)) = pt at *
    generalize hmk (p.data.toList.drop (qAt p.data.toList + 1)) = qy at *
    generalize decide (qAt p.data.toList < p.data.toList.length) = fb at *
    have hft := f_field_text
    obtain ⟨q0, q1, q2, q3, _, _⟩ := K1.out.2.1
    go_wp2_with fail
    refine C5.mono ?_
    rintro e w2 ⟨rfl, hb2⟩
    have K2 : Hid (Below w.heap.size w w2 ∧ Four w2 w.heap.size (.string m) (.string h) (.string p) (.slice a l.length cap) ∧ Two w2 (w.heap.size + 1) (.int .i64 0) (.string ⟨#[]⟩)) := ⟨K1.out.1.trans (hb2.mono K1.out.1.size), K1.out.2.1.keep hb2, K1.out.2.2.keep hb2⟩
    clear C5 hb2 K1 q0 q1 q2 q3
    have C6 := HL.out w2
    obtain ⟨q0, q1, q2, q3, _, _⟩ := K2.out.2.1
    go_wp2_with fail
    refine C6.mono ?_
    rintro e w3 ⟨rfl, hb3⟩
    have K3 : Hid (Below w.heap.size w w3 ∧ Two w3 (w.heap.size + 1) (.int .i64 0) (.string ⟨#[]⟩)) := ⟨K2.out.1.trans (hb3.mono K2.out.1.size), K2.out.2.2.keep hb3⟩
    clear C6 hb3 K2 q0 q1 q2 q3 HL
    have C7 := HQ.out w3
    go_wp2_with fail
    refine C7.mono ?_
    rintro e w4 ⟨⟨v, rfl, ho⟩, hb4⟩
    have K4 : Hid (Below w.heap.size w w4 ∧ Two w4 (w.heap.size + 1) (.int .i64 0) (.string ⟨#[]⟩)) := ⟨K3.out.1.trans (hb4.mono K3.out.1.size), K3.out.2.keep hb4⟩
    obtain ⟨a5, c5, rfl, _⟩ := ho.shape
    rw [List.length_map] at ho ⊢
    have HO : Hid (OwnS w4 w3.heap.size (.slice a5 S.length c5) (S.map hmk)) := ho
    clear C7 hb4 K3 HQ ho
    obtain ⟨r0, r1, rf, _⟩ := K4.out.2
    have rf0 := rf 0
    have rf1 := rf 1
    clear rf
    by_cases hn : S.length = 0
    · have HE : Hid (o0 = kr) := by
        refine HR.out o0 ?_
        have : S = [] := List.eq_nil_of_length_eq_zero hn
        rw [this, keyQ_nil, List.append_nil]
      have gn : ¬ (0 : Int) < S.length := by omega
      clear HR HO
      generalize S.length = n at *
      go_wp2_with fail
      have T2 := two_put (v0 := .int .i64 0) (v1 := .string o0) K4.out.2
      exact bodyPost_ret (v := .agg #[.int .i64 0, .string o0]) (by simp [results, Tryz.results33, go_sem, T2.c0, T2.c1]) rfl ⟨by rw [HE.out], (K4.out.1.setCell (by simp) _).setCell (by simp) _⟩
    · have gn : (0 : Int) < S.length := by omega
      have hjl : (Lib.join S [38]).length ≤ 1000 := by
        have := keyQ_len S
        rw [keyQ, if_neg (fun e => hn (by rw [e]; rfl)), List.length_cons] at this
        omega
      have C8 := join_amp w4 w3.heap.size _ _ HO.out (by rw [List.length_map]; omega) (by rw [hmk_back]; omega)
      rw [hmk_back] at C8
      obtain ⟨j, hj⟩ : ∃ j : ByteArray, j = ⟨(Lib.join S [38]).toArray⟩ := ⟨_, rfl⟩
      rw [← hj] at C8
      have sj : j.size ≤ 1000 := by rw [hj]; show (Lib.join S [38]).toArray.size ≤ 1000; rw [List.size_toArray]; exact hjl
      have lit1 : (⟨#[63]⟩ : ByteArray).size = 1 := rfl
      obtain ⟨x1, hx1⟩ : ∃ x : ByteArray, x = ⟨#[63]⟩ ++ j := ⟨_, rfl⟩
      have sx1 : x1.size = 1 + j.size := by rw [hx1, ByteArray.size_append, lit1]
      have add1 : ∀ X, (Op.stringOp .add ⟨#[63]⟩ j).run Tryz.prog X = .ok (.string x1) X := fun X => by rw [hx1]; exact run_string_add_sum X _ _ (by omega)
      obtain ⟨x2, hx2⟩ : ∃ x : ByteArray, x = o0 ++ x1 := ⟨_, rfl⟩
      have add2 : ∀ X, (Op.stringOp .add o0 x1).run Tryz.prog X = .ok (.string x2) X := fun X => by rw [hx2]; exact run_string_add_sum X _ _ (by omega)
      have HE : Hid (x2 = kr) := by
        refine HR.out x2 ?_
        rw [hx2, happ_list, hx1, happ_list, hj, keyQ, if_neg (fun e => hn (by rw [e]; rfl))]
        simp
      clear HR HO hx1 hx2 hj sx1 lit1 sj hjl hn hSs hSl
      generalize S.length = n at *
      go_wp2_with fail
      refine C8.mono ?_
      rintro e w5 ⟨rfl, hb5⟩
      have K5 : Hid (Below w.heap.size w w5 ∧ Two w5 (w.heap.size + 1) (.int .i64 0) (.string ⟨#[]⟩)) := ⟨K4.out.1.trans (hb5.mono K4.out.1.size), K4.out.2.keep hb5⟩
      clear C8 hb5 K4 r0 r1 rf0 rf1
      obtain ⟨r0, r1, rf, _⟩ := K5.out.2
      have rf0 := rf 0
      have rf1 := rf 1
      clear rf
      go_wp2_with fail
      have T2 := two_put (v0 := .int .i64 0) (v1 := .string x2) K5.out.2
      exact bodyPost_ret (v := .agg #[.int .i64 0, .string x2]) (by simp [results, Tryz.results33, go_sem, T2.c0, T2.c1]) rfl ⟨by rw [HE.out], (K5.out.1.setCell (by simp) _).setCell (by simp) _⟩
  · have HR : Hid (kr = ⟨#[]⟩) := HCC.out.2 c0
    obtain ⟨r0, r1, rf, _⟩ := K1.out.2.2
    have rf0 := rf 0
    have rf1 := rf 1
    clear rf HM HCC
    go_wp2_with fail
    have T2 := two_put (v0 := .int .i64 c) (v1 := .string ⟨#[]⟩) K1.out.2.2
    exact bodyPost_ret (v := .agg #[.int .i64 c, .string ⟨#[]⟩]) (by simp [results, Tryz.results33, go_sem, T2.c0, T2.c1]) rfl ⟨by rw [HR.out], (K1.out.1.setCell (by simp) _).setCell (by simp) _⟩
end Go.Proofs.YtojcjpdgjohldaaGreatDoor
/-
  Rows of texts: the laws' own helpers over them.
-/
namespace Go.Proofs.YtojcjpdgjohldaaGreatDoor
open Go.ChangeShapes Go.WideShapes Go.ChangeAt Go.RowKit Go.Sort
def TAt (w : World) (b off : Nat) (l : List ByteArray) : Prop := ∀ (i : Nat) c, l[i]? = some c → w.cell? ⟨b, off + i, none⟩ = some (.string c)
theorem TAt.keep {w w' : World} {b off : Nat} {l : List ByteArray} (h : TAt w b off l) (hb : Below w.heap.size w w') : TAt w' b off l := by
  intro i c hc
  have := h i c hc
  rw [hb.cell (block_lt_of_cell this)]; exact this
def TIn (w : World) (a : Option Addr) (l : List ByteArray) : Prop := l = [] ∨ ∃ b off, a = some ⟨b, off, none⟩ ∧ TAt w b off l
theorem TIn.keep {w w' : World} {a : Option Addr} {l : List ByteArray} (h : TIn w a l) (hb : Below w.heap.size w w') : TIn w' a l := by
  rcases h with h | ⟨b, off, e, h⟩
  · exact .inl h
  · exact .inr ⟨b, off, e, h.keep hb⟩
structure TMine (W : World) (B : Nat) (l : List ByteArray) : Prop where
  at0 : TAt W B 0 l
  free : ∀ o, o < l.length → W.frozen? ⟨B, o, none⟩ = false
  lt : B < W.heap.size
theorem TMine.keep {W W' : World} {B : Nat} {l : List ByteArray} (h : TMine W B l) (hb : Below W.heap.size W W') : TMine W' B l :=
  ⟨h.at0.keep hb, fun o ho => by rw [hb.frozen (p := ⟨B, o, none⟩) h.lt]; exact h.free o ho, Nat.lt_of_lt_of_le h.lt hb.size⟩
theorem TMine.in {W : World} {B : Nat} {l : List ByteArray} (h : TMine W B l) : TIn W (some ⟨B, 0, none⟩) l := .inr ⟨B, 0, rfl, h.at0⟩
/-- How much room is left behind the texts; -1: none. -/
def szTs (left : Int) : List ByteArray → Int
  | [] => left
  | r :: l => if left - (r.size : Int) < 0 then -1 else szTs (left - (r.size : Int)) l
def szTL (left : Int) (l : List ByteArray) : Int := if left - (l.length : Int) < 0 then -1 else szTs (left - (l.length : Int)) l
theorem szTs_le (l : List ByteArray) : ∀ left, szTs left l ≤ left ∨ szTs left l = -1 := by
  induction l with
  | nil => intro left; exact .inl (Int.le_refl _)
  | cons r l ih =>
    intro left
    rw [szTs]
    split
    · exact .inr rfl
    · rcases ih (left - (r.size : Int)) with h | h
      · left; omega
      · exact .inr h
theorem szTL_room {left : Int} {l : List ByteArray} (hl : left ≤ 1048576) (hz : ¬ szTL left l < 0) : l.length ≤ 1048576 ∧ ∀ x ∈ l, x.size ≤ 1048576 := by
  unfold szTL at hz
  by_cases c : left - (l.length : Int) < 0
  · rw [if_pos c] at hz; omega
  · rw [if_neg c] at hz
    refine ⟨by omega, ?_⟩
    have : ∀ (l : List ByteArray) (left : Int), left ≤ 1048576 → ¬ szTs left l < 0 → ∀ x ∈ l, x.size ≤ 1048576 := fun l => by
      induction l with
      | nil => intro _ _ _ x hx; cases hx
      | cons r l ih =>
        intro left h1 h2 x hx
        rw [szTs] at h2
        by_cases c : left - (r.size : Int) < 0
        · rw [if_pos c] at h2; omega
        · rw [if_neg c] at h2
          rcases List.mem_cons.1 hx with rfl | hx
          · omega
          · exact ih _ (by omega) h2 x hx
    exact this l _ (by omega) hz
set_option maxHeartbeats 2000000 in
theorem szStringS_any (w : World) (a : Option Addr) (cap : Nat) (l : List ByteArray) (hl : l.length ≤ maxLen) (hi : TIn w a l) (hz : ∀ x ∈ l, x.size ≤ maxLen) (left : Int) (h0 : 0 ≤ left) (h1 : left ≤ 1048576) :
    Calls Tryz.prog 51 #[.slice a l.length cap, .int .i64 left] w fun e w' => e = .returned (.int .i64 (szTL left l)) ∧ Below w.heap.size w w' := by
  unfold maxLen at hl
  have HI : Hid (TIn w a l) := hi
  have HZ : Hid (∀ x ∈ l, x.size ≤ maxLen) := hz
  clear hi hz
  generalize hn : l.length = n at *
  have HN : Hid (l.length = n) := hn
  by_cases c0 : left - (n : Int) < 0
  · have HE : Hid (szTL left l = -1) := by show _ = _; unfold szTL; rw [hn, if_pos c0]
    clear hn
    go_enter Tryz.func51, Tryz.ntmps51
    go_wp2
    go_ret
    exact ⟨ret_int HE.out.symm, Below.refl _ _⟩
  have HE : Hid (szTL left l = szTs (left - (n : Int)) l) := by show _ = _; unfold szTL; rw [hn, if_neg c0]
  have c0' : 0 ≤ left - (n : Int) := by omega
  clear hn
  go_enter Tryz.func51, Tryz.ntmps51
  go_wp2_with fail
  go_loopw [1, 5] (fun x i wr => ∃ (k : Nat) (c : Int), k ≤ n ∧ i = .int .i64 k ∧ x = .int .i64 c ∧ 0 ≤ c ∧ c ≤ 1048576 ∧ szTL left l = szTs c (l.drop k) ∧ Below w.heap.size w wr) (fun _ i _ => n - (intOf i).toNat)
  case atStart => exact ⟨0, left - (n : Int), Nat.zero_le _, rfl, rfl, c0', by omega, HE.out, Below.refl _ _⟩
  case round =>
    obtain ⟨k, c, hk, rfl, rfl, c2, c3, hs, hb⟩ := hrel
    have HS : Hid (szTL left l = szTs c (l.drop k)) := hs
    clear hs HE
    by_cases hlt : k < n
    · obtain ⟨r, hr⟩ : ∃ r, l[k]? = some r := ⟨l[k]'(by have := HN.out; omega), List.getElem?_eq_getElem _⟩
      rcases HI.out with h | ⟨b, off, rfl, hat⟩
      · subst h; simp at hr
      have p1 := (hat.keep hb) k r hr
      have z1 := HZ.out r (List.mem_of_getElem? hr)
      have HS2 : Hid (szTL left l = if c - (r.size : Int) < 0 then -1 else szTs (c - (r.size : Int)) (l.drop (k + 1))) := by
        show _ = _
        obtain ⟨hk2, hr2⟩ := List.getElem?_eq_some_iff.1 hr
        rw [HS.out, List.drop_eq_getElem_cons hk2, hr2, szTs]
      have g : (k : Int) < n := by omega
      unfold maxLen at z1
      clear HS hr hat HI HZ
      by_cases hd : c - (r.size : Int) < 0
      · have HF : Hid (szTL left l = -1) := by show _ = _; rw [HS2.out, if_pos hd]
        clear HS2
        go_wp2_with fail
        go_ret
        exact ⟨ret_int HF.out.symm, hb⟩
      · have HF : Hid (szTL left l = szTs (c - (r.size : Int)) (l.drop (k + 1))) := by show _ = _; rw [HS2.out, if_neg hd]
        clear HS2
        go_wp2_with fail
        go_roundw
        case rel => exact ⟨k + 1, c - (r.size : Int), by omega, by go_num, rfl, by omega, by omega, HF.out, hb⟩
        case measure => simp [intOf]; omega
    · have HF : Hid (szTL left l = c) := by
        show _ = _
        rw [HS.out, List.drop_of_length_le (by have := HN.out; omega), szTs]
      clear HS
      go_wp2_with fail
      go_ret
      exact ⟨ret_int HF.out.symm, hb⟩
theorem infoTextR : (Tryz.prog.info? 9).map (fun i => (i.zero, i.size, i.bytes)) = some (some (.string ⟨#[]⟩), 1, 16) := by kernel_rfl
theorem TAt.put {w : World} {G : Nat} {l : List ByteArray} {k n : Nat} {c : ByteArray} (h : TAt w G 0 (l.take k)) (hr : l[k]? = some c) (hm : HRoom w G n) (hk : k < n) : TAt (w.setCell ⟨G, k, none⟩ (.string c)) G 0 (l.take (k + 1)) := by
  intro i q hq
  have hi : i < k + 1 := by
    have := (List.getElem?_eq_some_iff.1 hq).1
    simp at this; omega
  rw [List.getElem?_take_of_lt hi] at hq
  simp only [Nat.zero_add]
  by_cases e : i = k
  · subst e
    rw [hr] at hq
    obtain rfl := Option.some.inj hq
    obtain ⟨⟨u0, g0⟩, _⟩ := hm i (by omega)
    exact World.cell?_setCell_same _ _ _ g0
  · have hq2 : (l.take k)[i]? = some q := by rw [List.getElem?_take_of_lt (by omega)]; exact hq
    have a1 := h i q hq2
    simp only [Nat.zero_add] at a1
    rw [World.cell?_setCell_other _ _ _ _ (hoff_ne (by omega))]; exact a1
set_option maxHeartbeats 2000000 in
theorem toStringS_any (w : World) (a : Option Addr) (cap : Nat) (l : List ByteArray) (hl : l.length ≤ 1048576) (hi : TIn w a l) :
    Calls Tryz.prog 52 #[.slice a l.length cap] w fun e w' => e = .returned (.slice (some ⟨w.heap.size, 0, none⟩) l.length l.length) ∧ TMine w' w.heap.size l ∧ Below w.heap.size w w' := by
  have HI : Hid (TIn w a l) := hi
  obtain ⟨i0, hi0, hz0, hz1, hz2⟩ := info_parts infoTextR
  clear hi
  generalize hn : l.length = n at *
  have HN : Hid (l.length = n) := hn
  clear hn
  go_enter Tryz.func52, Tryz.ntmps52
  go_wp2_with (at_make; refine wpList_make_full w rfl _ _ 46 rfl w.heap.size 9 i0 _ 1 Tryz.underlying46 hi0 hz0 hz1 _ _ _ _ n rfl rfl rfl rfl (by rw [hz2]; omega) (by unfold maxLen; omega) (Nat.le_refl _) ?_; intro w1 hown hgrow)
  have HR1 : Hid (HRoom w1 w.heap.size n ∧ (w.heap.size < w1.heap.size ∧ ∀ o, w1.frozen? ⟨w.heap.size, o, none⟩ = false) ∧ Below w.heap.size w w1) := by
    refine ⟨fun j hj => ⟨?_, hown.frozenAt j⟩, ⟨?lt, fun o => hown.frozenAt o⟩, (Below.refl _ _).grown hgrow (Nat.le_refl _) (fun q hq => by cases hq)⟩
    case lt =>
      obtain ⟨_, h | ⟨g, c, cur, e, _, hh, _⟩⟩ := hown
      · cases h.1
      · simp only [Value.slice.injEq, Option.some.injEq] at e
        have e1 := congrArg Addr.block e.1
        simp only at e1
        rw [e1]
        exact (Array.getElem?_eq_some_iff.1 hh).1
    have h1 := hown.cellAt j (by omega)
    have h2 : j < (madeCells (Value.string ⟨#[]⟩).cells (n * 1)).toList.length := by have := hown.1; omega
    exact ⟨_, h1.trans (List.getElem?_eq_getElem h2)⟩
  clear hown hgrow
  go_loopw [4] (fun i wr => ∃ k : Nat, k ≤ n ∧ i = .int .i64 k ∧ TAt wr w.heap.size 0 (l.take k) ∧ HRoom wr w.heap.size n ∧ (w.heap.size < wr.heap.size ∧ ∀ o, wr.frozen? ⟨w.heap.size, o, none⟩ = false) ∧ Below w.heap.size w wr) (fun i _ => n - (intOf i).toNat)
  case atStart => exact ⟨0, Nat.zero_le _, rfl, fun i r hr => by simp at hr, HR1.out.1, HR1.out.2.1, HR1.out.2.2⟩
  case round =>
    obtain ⟨k, hk, rfl, hat, hroom, hfr, hb⟩ := hrel
    have HFR : Hid (w.heap.size < wr.heap.size ∧ ∀ o, wr.frozen? ⟨w.heap.size, o, none⟩ = false) := hfr
    clear hfr HR1
    by_cases hlt : k < n
    · obtain ⟨c, hr⟩ : ∃ r, l[k]? = some r := ⟨l[k]'(by have := HN.out; omega), List.getElem?_eq_getElem _⟩
      rcases HI.out with h | ⟨b, off, rfl, hsrc⟩
      · subst h; simp at hr
      have p1 := hsrc k c hr
      have hblt : b < w.heap.size := block_lt_of_cell p1
      have p2 : wr.cell? ⟨b, off + k, none⟩ = some (.string c) := by rw [hb.cell (p := ⟨b, off + k, none⟩) hblt]; exact p1
      obtain ⟨⟨u0, g0⟩, f0⟩ := hroom k (by omega)
      have HP : Hid (TAt (wr.setCell ⟨w.heap.size, k, none⟩ (.string c)) w.heap.size 0 (l.take (k + 1)) ∧ HRoom (wr.setCell ⟨w.heap.size, k, none⟩ (.string c)) w.heap.size n) := ⟨hat.put hr hroom hlt, hroom.set _ _⟩
      have g : (k : Int) < n := by omega
      have HB : Hid (Below w.heap.size w wr) := hb
      clear hat hroom hr hsrc p1 HI hb
      go_wp2_with fail
      go_roundw
      case rel => exact ⟨k + 1, by omega, by go_num, HP.out.1, HP.out.2, ⟨by simpa using HFR.out.1, fun o => by rw [World.frozen?_setCell]; exact HFR.out.2 o⟩, HB.out.setCell (Nat.le_refl _) _⟩
      case measure => simp [intOf]; omega
    · have HF : Hid (TMine wr w.heap.size l) := by
        have e : l.take k = l := List.take_of_length_le (by have := HN.out; omega)
        rw [e] at hat
        exact ⟨hat, fun o _ => HFR.out.2 o, HFR.out.1⟩
      clear hat hroom
      go_wp2_with fail
      go_ret
      exact ⟨rfl, HF.out, hb⟩
set_option maxHeartbeats 2000000 in
theorem eqStringS_same (w : World) (a1 a2 : Option Addr) (c1 c2 : Nat) (l : List ByteArray) (hl : l.length ≤ 1048576) (h1 : TIn w a1 l) (h2 : TIn w a2 l) :
    Calls Tryz.prog 53 #[.slice a1 l.length c1, .slice a2 l.length c2] w fun e w' => e = .returned (.bool true) ∧ Below w.heap.size w w' := by
  have H1 : Hid (TIn w a1 l) := h1
  have H2 : Hid (TIn w a2 l) := h2
  clear h1 h2
  generalize hn : l.length = n at *
  have HN : Hid (l.length = n) := hn
  clear hn
  go_enter Tryz.func53, Tryz.ntmps53
  go_wp2_with fail
  go_loopw [5] (fun i wr => ∃ k : Nat, k ≤ n ∧ i = .int .i64 k ∧ Below w.heap.size w wr) (fun i _ => n - (intOf i).toNat)
  case atStart => exact ⟨0, Nat.zero_le _, rfl, Below.refl _ _⟩
  case round =>
    obtain ⟨k, hk, rfl, hb⟩ := hrel
    by_cases hlt : k < n
    · obtain ⟨r, hr⟩ : ∃ r, l[k]? = some r := ⟨l[k]'(by have := HN.out; omega), List.getElem?_eq_getElem _⟩
      rcases H1.out with h | ⟨b1, o1, rfl, hs1⟩
      · subst h; simp at hr
      rcases H2.out with h | ⟨b2, o2, rfl, hs2⟩
      · subst h; simp at hr
      have p1 := (hs1.keep hb) k r hr
      have p2 := (hs2.keep hb) k r hr
      have x1 := cell_regrown p1
      have x2 := cell_regrown p2
      have g0 : (0 : Int) ≤ k := by omega
      have g : (k : Int) < n := by omega
      clear hr p1 p2 hs1 hs2 H1 H2
      go_wp2_with fail
      refine wp_region_quiet_below (by kernel_rfl) (by kernel_rfl) ?_
      repeat (go_big_quiet_step (first | fail))
      refine wpQuiet_nil ?_
      intro w2 hw2
      have hbb : Below w.heap.size w w2 := by
        obtain ⟨⟨d, os⟩, rfl⟩ := hw2
        exact hb.trans ((below_regrown wr d os).mono hb.size)
      clear x1 x2 hw2 hb
      go_wp2_with fail
      go_roundw
      case rel => exact ⟨k + 1, by omega, by go_num, hbb⟩
      case measure => simp [intOf]; omega
    · go_wp2_with fail
      go_ret
      exact ⟨rfl, hb⟩
end Go.Proofs.YtojcjpdgjohldaaGreatDoor
/-
  What the model's FullKey answers.
-/
namespace Go.Proofs.YtojcjpdgjohldaaGreatDoor
open Go.ChangeShapes Go.WideShapes Go.ChangeAt Go.RowKit Go.Sort
def wordsA (ns : List ByteArray) : Bool := ns.all wordS
def namesC (ns : List ByteArray) : Int := if 4 < ns.length then 2 else if wordsA ns = true then 0 else 5
theorem namesC_many {ns : List ByteArray} (h : 4 < ns.length) : namesC ns = 2 := by rw [namesC, if_pos h]
theorem namesC_ok {ns : List ByteArray} (h : ¬ 4 < ns.length) (h2 : wordsA ns = true) : namesC ns = 0 := by rw [namesC, if_neg h, if_pos h2]
theorem namesC_bad {ns : List ByteArray} (h : ¬ 4 < ns.length) (h2 : wordsA ns = false) : namesC ns = 5 := by rw [namesC, if_neg h, if_neg (by rw [h2]; decide)]
theorem wordsA_not {ns : List ByteArray} {k : Nat} {x : ByteArray} (h : ns[k]? = some x) (hw : wordS x = false) : wordsA ns = false := by
  have hm := List.mem_of_getElem? h
  cases hc : wordsA ns
  · rfl
  · have := List.all_eq_true.1 hc x hm
    rw [hw] at this; cases this
theorem wordsA_of {ns : List ByteArray} (h : ∀ (k : Nat) x, ns[k]? = some x → wordS x = true) : wordsA ns = true := by
  refine List.all_eq_true.2 fun x hx => ?_
  obtain ⟨i, hi⟩ := List.getElem?_of_mem hx
  exact h i x hi
theorem wordsA_mem {ns : List ByteArray} (h : wordsA ns = true) {k : Nat} {x : ByteArray} (hx : ns[k]? = some x) : wordS x = true := List.all_eq_true.1 h x (List.mem_of_getElem? hx)
/-- What one name adds. -/
def addN (l : List Hdr) (o : List UInt8) (nm : ByteArray) : List UInt8 := o ++ [32] ++ (lowS nm).data.toList ++ [61] ++ hjoinL (valsOf (lowS nm) l)
def fullL (h p : ByteArray) (l : List Hdr) (ns : List ByteArray) : List UInt8 := ns.foldl (addN l) (keyT h p)
theorem fullL_take {h p : ByteArray} {l : List Hdr} {ns : List ByteArray} {k : Nat} {x : ByteArray} (hx : ns[k]? = some x) : fullL h p l (ns.take (k + 1)) = addN l (fullL h p l (ns.take k)) x := by
  rw [List.take_add_one, hx]
  simp [fullL]
def fullC (m h p : ByteArray) (l : List Hdr) (ns : List ByteArray) : Int := if reqC m h p l = 0 then namesC ns else reqC m h p l
def fullR (m h p : ByteArray) (l : List Hdr) (ns : List ByteArray) : ByteArray := if fullC m h p l ns = 0 then hmk (fullL h p l ns) else ⟨#[]⟩
theorem fullC_bad {m h p : ByteArray} {l : List Hdr} {ns : List ByteArray} (c : ¬ reqC m h p l = 0) : fullC m h p l ns = reqC m h p l ∧ fullR m h p l ns = ⟨#[]⟩ := by
  have e : fullC m h p l ns = reqC m h p l := by rw [fullC, if_neg c]
  exact ⟨e, by rw [fullR, if_neg (by rw [e]; exact c)]⟩
theorem fullC_names {m h p : ByteArray} {l : List Hdr} {ns : List ByteArray} (c : reqC m h p l = 0) (c2 : ¬ namesC ns = 0) : fullC m h p l ns = namesC ns ∧ fullR m h p l ns = ⟨#[]⟩ := by
  have e : fullC m h p l ns = namesC ns := by rw [fullC, if_pos c]
  exact ⟨e, by rw [fullR, if_neg (by rw [e]; exact c2)]⟩
theorem fullC_ok {m h p : ByteArray} {l : List Hdr} {ns : List ByteArray} (c : reqC m h p l = 0) (c2 : namesC ns = 0) : fullC m h p l ns = 0 ∧ fullR m h p l ns = hmk (fullL h p l ns) := by
  have e : fullC m h p l ns = 0 := by rw [fullC, if_pos c]; exact c2
  exact ⟨e, by rw [fullR, if_pos e]⟩
theorem keyT_len {h p : ByteArray} (hh : h.size ≤ 60) (hp : p.size ≤ 100) : (keyT h p).length ≤ 500 := by
  have h1 := keyQ_len (keyParts p.data.toList)
  have h2 := keyParts_len p.data.toList
  have h3 := keyParts_sum p.data.toList
  have h4 : (lowS h).data.toList.length = (lowS h).size := by simp
  rw [hsize_list] at h2 h3
  rw [keyT, List.length_append, List.length_append, h4, lowS_size, List.length_take, hsize_list]
  omega
theorem names_zero {ns : List ByteArray} (h : namesC ns = 0) : ns.length ≤ 4 ∧ wordsA ns = true := by
  by_cases c : 4 < ns.length
  · rw [namesC_many c] at h; omega
  · cases hw : wordsA ns
    · rw [namesC_bad c hw] at h; omega
    · exact ⟨by omega, rfl⟩
theorem addN_len {l : List Hdr} (h0 : headsC l = 0) {o : List UInt8} {x : ByteArray} (hx : wordS x = true) : (addN l o x).length ≤ o.length + 4200 := by
  have h1 := hword_max hx
  obtain ⟨h20, hz⟩ := heads_sizes h0
  have h2 := hjoinL_len (valsOf (lowS x) l) (valsOf_mem hz)
  have h3 := valsOf_len (lowS x) l
  have h4 : (lowS x).data.toList.length = (lowS x).size := by simp
  rw [lowS_size] at h4
  simp only [addN, List.length_append, List.length_cons, List.length_nil, h4]
  omega
theorem hjoin_len {l : List Hdr} (h0 : headsC l = 0) (x : ByteArray) : (hjoinL (valsOf x l)).length ≤ 4040 := by
  obtain ⟨h20, hz⟩ := heads_sizes h0
  have h2 := hjoinL_len (valsOf x l) (valsOf_mem hz)
  have h3 := valsOf_len x l
  omega
set_option maxRecDepth 100000 in
set_option maxHeartbeats 4000000 in
theorem l5Names_any (w : World) (a : Option Addr) (cap : Nat) (ns : List ByteArray) (hn : ns.length ≤ 1048576) (hi : TIn w a ns) :
    Calls Tryz.prog 93 #[.slice a ns.length cap] w fun e w' => e = .returned (.int .i64 (namesC ns)) ∧ Below w.heap.size w w' := by
  have HI : Hid (TIn w a ns) := hi
  clear hi
  by_cases h4 : 4 < ns.length
  · have HE : Hid (namesC ns = 2) := namesC_many h4
    generalize ns.length = n at *
    have g : (4 : Int) < n := by omega
    go_enter Tryz.func93, Tryz.ntmps93
    go_wp2_with fail
    go_ret
    exact ⟨ret_int HE.out.symm, Below.refl _ _⟩
  have HBAD : Hid (wordsA ns = false → namesC ns = 5) := namesC_bad h4
  have HOK : Hid (wordsA ns = true → namesC ns = 0) := namesC_ok h4
  generalize hnn : ns.length = n at *
  have HN : Hid (ns.length = n) := hnn
  clear hnn
  have g : ¬ (4 : Int) < n := by omega
  go_enter Tryz.func93, Tryz.ntmps93
  go_wp2_with fail
  go_loopw [3] (fun i wr => ∃ k : Nat, k ≤ n ∧ i = .int .i64 k ∧ (∀ (j : Nat) x, j < k → ns[j]? = some x → wordS x = true) ∧ Below w.heap.size w wr) (fun i _ => n - (intOf i).toNat)
  case atStart => exact ⟨0, Nat.zero_le _, rfl, fun j x hj _ => absurd hj (by omega), Below.refl _ _⟩
  case round =>
    obtain ⟨k, hk, rfl, hw, hb⟩ := hrel
    have HW : Hid (∀ (j : Nat) x, j < k → ns[j]? = some x → wordS x = true) := hw
    clear hw
    by_cases hlt : k < n
    · obtain ⟨x, hx⟩ : ∃ r, ns[k]? = some r := ⟨ns[k]'(by have := HN.out; omega), List.getElem?_eq_getElem _⟩
      rcases HI.out with h | ⟨b, off, rfl, hat⟩
      · subst h; simp at hx
      have p1 := (hat.keep hb) k x hx
      have HX : Hid (ns[k]? = some x) := hx
      have C := specIsWord_any x wr
      have gk : (k : Int) < n := by omega
      clear hx hat
      by_cases hw : wordS x = true
      · rw [hw] at C
        have HWX : Hid (wordS x = true) := hw
        clear hw
        go_wp2_with fail
        refine C.mono ?_
        rintro e w2 ⟨rfl, rfl⟩
        go_wp2_with fail
        go_roundw
        case rel =>
          refine ⟨k + 1, by omega, by go_num, fun j y hj hy => ?_, hb⟩
          by_cases e : j = k
          · subst e
            rw [HX.out] at hy
            obtain rfl := Option.some.inj hy
            exact HWX.out
          · exact HW.out j y (by omega) hy
        case measure => simp [intOf]; omega
      · have hwf : wordS x = false := by simpa using hw
        rw [hwf] at C
        have HE : Hid (namesC ns = 5) := HBAD.out (wordsA_not HX.out hwf)
        clear hw hwf
        go_wp2_with fail
        refine C.mono ?_
        rintro e w2 ⟨rfl, rfl⟩
        go_wp2_with fail
        go_ret
        exact ⟨ret_int HE.out.symm, hb⟩
    · have HE : Hid (namesC ns = 0) := HOK.out (wordsA_of fun j x hx => HW.out j x (by have := (List.getElem?_eq_some_iff.1 hx).1; have := HN.out; omega) hx)
      go_wp2_with fail
      go_ret
      exact ⟨ret_int HE.out.symm, hb⟩
set_option maxRecDepth 100000 in
set_option maxHeartbeats 8000000 in
theorem l5Full_any (w : World) (B : Nat) (m h p : ByteArray) (a : Option Addr) (cap : Nat) (l : List Hdr) (c : Option Addr) (nc : Nat) (ns : List ByteArray) (F : Four w B (.string m) (.string h) (.string p) (.slice a l.length cap)) (hh : h.size ≤ 60) (hp : p.size ≤ 100) (h0 : headsC l = 0) (hi : HdsIn w a l) (hn : ns.length ≤ 4) (hw : wordsA ns = true) (ht : TIn w c ns) :
    Calls Tryz.prog 94 #[.pointer (some ⟨B, 0, none⟩), .slice c ns.length nc] w fun e w' => e = .returned (.string (hmk (fullL h p l ns))) ∧ Below w.heap.size w w' := by
  have C := l5Key_any w B m h p _ F hh hp
  obtain ⟨h20, hz⟩ := heads_sizes h0
  have HF : Hid (∀ X, Below w.heap.size w X → X.cell? ⟨B, 3, none⟩ = some (.slice a l.length cap)) := fun X hb => (F.keep hb).c3
  have HJ : Hid (∀ X (x : ByteArray), Below w.heap.size w X → wordS x = true → Calls Tryz.prog 70 #[.slice a l.length cap, .string x] X fun e w' => e = .returned (.tuple #[.string ⟨(hjoinL (valsOf (lowS x) l)).toArray⟩, .bool (anyV (valsOf (lowS x) l))]) ∧ Below X.heap.size X w') := fun X x hb hx => l4Join_any X a cap l x h20 hz (hword_max hx) (hi.keep hb)
  have HK : Hid ((keyT h p).length ≤ 500) := keyT_len hh hp
  have HL : Hid (headsC l = 0) := h0
  have HI : Hid (TIn w c ns) := ht
  have HW : Hid (wordsA ns = true) := hw
  have hs0 : (hmk (keyT h p)).size ≤ 500 := by rw [hmk_size]; exact keyT_len hh hp
  have HE0 : Hid ((hmk (keyT h p)).data.toList = fullL h p l (ns.take 0)) := by show _ = _; rw [hmk_list]; rfl
  clear hi F hz h20 ht hw h0 hh hp
  generalize hmk (keyT h p) = k0 at *
  generalize hnn : ns.length = n at *
  have HN : Hid (ns.length = n) := hnn
  clear hnn
  generalize l.length = ln at *
  go_enter Tryz.func94, Tryz.ntmps94
  go_wp2_with fail
  refine C.mono ?_
  rintro e w1 ⟨rfl, hb1⟩
  have HB1 : Hid (Below w.heap.size w w1) := hb1
  clear C hb1
  go_wp2_with fail
  go_loopw [5, 6] (fun v i wr => ∃ (k : Nat) (o : ByteArray), k ≤ n ∧ i = .int .i64 k ∧ v = .string o ∧ o.data.toList = fullL h p l (ns.take k) ∧ o.size ≤ 500 + k * 4200 ∧ Below w.heap.size w wr) (fun _ i _ => n - (intOf i).toNat)
  case atStart => exact ⟨0, k0, Nat.zero_le _, rfl, rfl, HE0.out, by omega, HB1.out⟩
  case round =>
    obtain ⟨k, o, hk, rfl, rfl, ho, hos, hb⟩ := hrel
    have HO : Hid (o.data.toList = fullL h p l (ns.take k)) := ho
    have HBR : Hid (Below w.heap.size w wr) := hb
    have hos2 : o.size ≤ 20000 := by omega
    clear ho HE0 HB1 hs0
    by_cases hlt : k < n
    · obtain ⟨x, hx⟩ : ∃ r, ns[k]? = some r := ⟨ns[k]'(by have := HN.out; omega), List.getElem?_eq_getElem _⟩
      have hwx := wordsA_mem HW.out hx
      have HT : Hid (fullL h p l (ns.take (k + 1)) = addN l (fullL h p l (ns.take k)) x) := fullL_take hx
      rcases HI.out with hh | ⟨b, off, rfl, hat⟩
      · subst hh; simp at hx
      have p1 := (hat.keep hb) k x hx
      have c3 := HF.out wr hb
      have x1 := cell_regrown p1
      have x3 := cell_regrown c3
      have hxm := hword_max hwx
      have hlm := HL.out
      have hjl := hjoin_len HL.out (lowS x)
      obtain ⟨jt, hjt⟩ : ∃ j : ByteArray, j = ⟨(hjoinL (valsOf (lowS x) l)).toArray⟩ := ⟨_, rfl⟩
      have sjt : jt.size ≤ 4040 := by rw [hjt]; show (hjoinL (valsOf (lowS x) l)).toArray.size ≤ 4040; rw [List.size_toArray]; exact hjl
      have cJ : ∀ d os, Calls Tryz.prog 70 #[.slice a ln cap, .string x] (grow (redrawn wr d) os) fun e w'' => e = .returned (.tuple #[.string jt, .bool (anyV (valsOf (lowS x) l))]) ∧ ∃ q : Regrown, w'' = grow (redrawn wr q.d) q.os := fun d os => by
        have h1 := HJ.out (grow (redrawn wr d) os) x (HBR.out.trans ((below_regrown wr d os).mono HBR.out.size)) hwx
        rw [← hjt] at h1
        exact Calls.regrown_of h1
      have HLW : Hid (∀ X, Calls Tryz.prog 138 #[.string x] X fun e w' => e = .returned (.string (lowS x)) ∧ Below X.heap.size X w') := fun X => l1Lower_any x X (by omega)
      have slw : (lowS x).size ≤ 64 := by rw [lowS_size]; exact hxm
      obtain ⟨lw, hlw⟩ : ∃ lw, lw = lowS x := ⟨_, rfl⟩
      have lit1 : (⟨#[32]⟩ : ByteArray).size = 1 := rfl
      have lit2 : (⟨#[61]⟩ : ByteArray).size = 1 := rfl
      obtain ⟨y1, hy1⟩ : ∃ y : ByteArray, y = o ++ ⟨#[32]⟩ := ⟨_, rfl⟩
      have s1 : y1.size = o.size + 1 := by rw [hy1, ByteArray.size_append, lit1]
      obtain ⟨y2, hy2⟩ : ∃ y : ByteArray, y = y1 ++ lw := ⟨_, rfl⟩
      have s2 : y2.size = y1.size + lw.size := by rw [hy2, ByteArray.size_append]
      obtain ⟨y3, hy3⟩ : ∃ y : ByteArray, y = y2 ++ ⟨#[61]⟩ := ⟨_, rfl⟩
      have s3 : y3.size = y2.size + 1 := by rw [hy3, ByteArray.size_append, lit2]
      obtain ⟨y4, hy4⟩ : ∃ y : ByteArray, y = y3 ++ jt := ⟨_, rfl⟩
      have s4 : y4.size = y3.size + jt.size := by rw [hy4, ByteArray.size_append]
      rw [← hlw] at slw HLW
      have a1 : ∀ X, (Op.stringOp .add o ⟨#[32]⟩).run Tryz.prog X = .ok (.string y1) X := fun X => by rw [hy1]; exact run_string_add_sum X _ _ (by omega)
      have a2 : ∀ X, (Op.stringOp .add y1 lw).run Tryz.prog X = .ok (.string y2) X := fun X => by rw [hy2]; exact run_string_add_sum X _ _ (by omega)
      have a3 : ∀ X, (Op.stringOp .add y2 ⟨#[61]⟩).run Tryz.prog X = .ok (.string y3) X := fun X => by rw [hy3]; exact run_string_add_sum X _ _ (by omega)
      have a4 : ∀ X, (Op.stringOp .add y3 jt).run Tryz.prog X = .ok (.string y4) X := fun X => by rw [hy4]; exact run_string_add_sum X _ _ (by omega)
      have HR : Hid (y4.data.toList = fullL h p l (ns.take (k + 1)) ∧ y4.size ≤ 500 + (k + 1) * 4200) := by
        refine ⟨?_, by omega⟩
        rw [HT.out, addN, hy4, hy3, hy2, hy1, happ_list, happ_list, happ_list, happ_list, HO.out, hjt, hlw]
      have g0 : (0 : Int) ≤ k := by omega
      have gk : (k : Int) < n := by omega
      have HCE : Hid (∀ X, Below wr.heap.size wr X → X.cell? ⟨b, off + k, none⟩ = some (.string x)) := fun X hb => by rw [hb.cell (p := ⟨b, off + k, none⟩) (block_lt_of_cell p1)]; exact p1
      clear hx hat HI p1 c3 hjt hlw lit1 lit2 hy1 hy2 hy3 hy4 s1 s2 s3 s4 HT hwx hjl hlm HJ hb
      generalize anyV (valsOf (lowS x) l) = av at *
      go_wp2_with fail
      refine wp_region_quiet_below (by kernel_rfl) (by kernel_rfl) ?_
      repeat (go_big_quiet_step ((go_at_call 70; exact cJ _ _)))
      refine wpQuiet_nil ?_
      intro w2 hw2
      have hb2 : Below wr.heap.size wr w2 := by
        obtain ⟨⟨d, os⟩, rfl⟩ := hw2
        exact below_regrown wr d os
      have HB2 : Hid (Below w.heap.size w w2) := HBR.out.trans (hb2.mono HBR.out.size)
      have px := HCE.out w2 hb2
      have C3 := HLW.out w2
      clear x1 x3 cJ hw2 hb2 HCE HLW HBR
      go_wp2_with fail
      refine C3.mono ?_
      rintro e w3 ⟨rfl, hb3⟩
      have HB3 : Hid (Below w.heap.size w w3) := HB2.out.trans (hb3.mono HB2.out.size)
      clear C3 hb3 px
      go_wp2_with fail
      go_roundw
      case rel => exact ⟨k + 1, y4, by omega, by go_num, rfl, HR.out.1, HR.out.2, HB3.out⟩
      case measure => simp [intOf]; omega
    · have ek : ns.take k = ns := List.take_of_length_le (by have := HN.out; omega)
      have HE : Hid (o = hmk (fullL h p l ns)) := by
        refine hof_list ?_
        rw [HO.out, ek]
      clear ek HO
      go_wp2_with fail
      go_ret
      exact ⟨congrArg (fun s => Ending.returned (.string s)) HE.out, hb⟩
set_option maxRecDepth 100000 in
set_option maxHeartbeats 4000000 in
theorem specFull_any (w : World) (m h p : ByteArray) (a : Option Addr) (cap : Nat) (l : List Hdr) (c : Option Addr) (nc : Nat) (ns : List ByteArray) (hl : l.length ≤ 1048576) (hn : ns.length ≤ 1048576) (hi : HdsIn w a l) (ht : TIn w c ns) :
    Calls Tryz.prog 32 #[.agg #[.string m, .string h, .string p, .slice a l.length cap], .slice c ns.length nc] w fun e w' => e = .returned (.agg #[.int .i64 (fullC m h p l ns), .string (fullR m h p l ns)]) ∧ Below w.heap.size w w' := by
  obtain ⟨W, hW⟩ : ∃ W, W = (w.alloc (.cells #[.string m, .string h, .string p, .slice a l.length cap] 26)).alloc (.cells #[.int .i64 0, .string ⟨#[]⟩] 50) := ⟨_, rfl⟩
  have HW : Hid (W = (w.alloc (.cells #[.string m, .string h, .string p, .slice a l.length cap] 26)).alloc (.cells #[.int .i64 0, .string ⟨#[]⟩] 50)) := hW
  have bW : Below w.heap.size w W := by rw [hW]; exact ((Below.refl _ _).alloc (Nat.le_refl _) _).alloc (by simp) _
  have f0 : Four W w.heap.size (.string m) (.string h) (.string p) (.slice a l.length cap) := by rw [hW]; exact (Four.new _ _ _ _ _ _).keep ((Below.refl _ _).alloc (Nat.le_refl _) _)
  have t0 : Two W (w.heap.size + 1) (.int .i64 0) (.string ⟨#[]⟩) := by
    rw [hW]
    have := Two.new (w.alloc (.cells #[.string m, .string h, .string p, .slice a l.length cap] 26)) (.int .i64 0) (.string ⟨#[]⟩) 50
    simpa using this
  have C := specReq_any W m h p a cap l hl (hi.keep bW)
  have K0 : Hid (Below w.heap.size w W ∧ Four W w.heap.size (.string m) (.string h) (.string p) (.slice a l.length cap) ∧ Two W (w.heap.size + 1) (.int .i64 0) (.string ⟨#[]⟩)) := ⟨bW, f0, t0⟩
  have HI : Hid (∀ X, Below w.heap.size w X → HdsIn X a l ∧ TIn X c ns) := fun X hb => ⟨hi.keep hb, ht.keep hb⟩
  have HCC : Hid ((¬ reqC m h p l = 0 → fullC m h p l ns = reqC m h p l ∧ fullR m h p l ns = ⟨#[]⟩) ∧ (reqC m h p l = 0 → ¬ namesC ns = 0 → fullC m h p l ns = namesC ns ∧ fullR m h p l ns = ⟨#[]⟩) ∧ (reqC m h p l = 0 → namesC ns = 0 → fullC m h p l ns = 0 ∧ fullR m h p l ns = hmk (fullL h p l ns)) ∧ (reqC m h p l = 0 → h.size ≤ 60 ∧ p.size ≤ 100 ∧ headsC l = 0)) := ⟨fun c0 => fullC_bad c0, fun c0 c1 => fullC_names c0 c1, fun c0 c1 => fullC_ok c0 c1, fun c0 => ⟨(method_size (reqC_zero c0).1).2.1, (method_size (reqC_zero c0).1).2.2, (reqC_zero c0).2.1⟩⟩
  clear hW bW f0 t0 hi ht
  generalize fullC m h p l ns = fc at *
  generalize fullR m h p l ns = fr at *
  generalize reqC m h p l = cc at *
  have hc3 := K0.out.2.1.c3
  rw [HW.out] at hc3
  go_enter Tryz.func32, Tryz.ntmps32
  go_wp2_with fail
  rw [← HW.out]
  refine C.mono ?_
  rintro e w1 ⟨rfl, hb1⟩
  have K1 : Hid (Below w.heap.size w w1 ∧ Four w1 w.heap.size (.string m) (.string h) (.string p) (.slice a l.length cap) ∧ Two w1 (w.heap.size + 1) (.int .i64 0) (.string ⟨#[]⟩)) := ⟨K0.out.1.trans (hb1.mono K0.out.1.size), K0.out.2.1.keep hb1, K0.out.2.2.keep hb1⟩
  clear C hb1 K0 HW hc3
  by_cases c0 : cc = 0
  · subst c0
    obtain ⟨z2, z3, y2⟩ := HCC.out.2.2.2 rfl
    have C4 := l5Names_any w1 c nc ns hn (HI.out w1 K1.out.1).2
    have HFL : Hid (namesC ns = 0 → ∀ X, Below w.heap.size w X → Four X w.heap.size (.string m) (.string h) (.string p) (.slice a l.length cap) → Calls Tryz.prog 94 #[.pointer (some ⟨w.heap.size, 0, none⟩), .slice c ns.length nc] X fun e w' => e = .returned (.string (hmk (fullL h p l ns))) ∧ Below X.heap.size X w') := fun hz X hb hF => l5Full_any X w.heap.size m h p a cap l c nc ns hF z2 z3 y2 (HI.out X hb).1 (names_zero hz).1 (names_zero hz).2 (HI.out X hb).2
    have HO : Hid (namesC ns = 0 → fc = 0 ∧ fr = hmk (fullL h p l ns)) := HCC.out.2.2.1 rfl
    have HB : Hid (¬ namesC ns = 0 → fc = namesC ns ∧ fr = ⟨#[]⟩) := HCC.out.2.1 rfl
    clear y2 z2 z3 HI hl hn HCC
    generalize hmk (fullL h p l ns) = ft at *
    generalize namesC ns = nm at *
    generalize ns.length = nn at *
    go_wp2_with fail
    refine C4.mono ?_
    rintro e w2 ⟨rfl, hb2⟩
    have K2 : Hid (Below w.heap.size w w2 ∧ Four w2 w.heap.size (.string m) (.string h) (.string p) (.slice a l.length cap) ∧ Two w2 (w.heap.size + 1) (.int .i64 0) (.string ⟨#[]⟩)) := ⟨K1.out.1.trans (hb2.mono K1.out.1.size), K1.out.2.1.keep hb2, K1.out.2.2.keep hb2⟩
    clear C4 hb2 K1
    by_cases d0 : nm = 0
    · have HOO := HO.out d0
      have HR : Hid (fc = 0 ∧ fr = ft) := HOO
      have C5 := HFL.out d0 w2 K2.out.1 K2.out.2.1
      subst d0
      clear HO HB HFL HOO
      go_wp2_with fail
      refine C5.mono ?_
      rintro e w3 ⟨rfl, hb3⟩
      have K3 : Hid (Below w.heap.size w w3 ∧ Two w3 (w.heap.size + 1) (.int .i64 0) (.string ⟨#[]⟩)) := ⟨K2.out.1.trans (hb3.mono K2.out.1.size), K2.out.2.2.keep hb3⟩
      clear C5 hb3 K2
      obtain ⟨r0, r1, rf, _⟩ := K3.out.2
      have rf0 := rf 0
      have rf1 := rf 1
      clear rf
      go_wp2_with fail
      have T2 := two_put (v0 := .int .i64 0) (v1 := .string ft) K3.out.2
      exact bodyPost_ret (v := .agg #[.int .i64 0, .string ft]) (by simp [results, Tryz.results32, go_sem, T2.c0, T2.c1]) rfl ⟨by rw [HR.out.1, HR.out.2], (K3.out.1.setCell (by simp) _).setCell (by simp) _⟩
    · have HR : Hid (fc = nm ∧ fr = ⟨#[]⟩) := HB.out d0
      clear HO HB HFL
      obtain ⟨r0, r1, rf, _⟩ := K2.out.2.2
      have rf0 := rf 0
      have rf1 := rf 1
      clear rf
      go_wp2_with fail
      have T2 := two_put (v0 := .int .i64 nm) (v1 := .string ⟨#[]⟩) K2.out.2.2
      exact bodyPost_ret (v := .agg #[.int .i64 nm, .string ⟨#[]⟩]) (by simp [results, Tryz.results32, go_sem, T2.c0, T2.c1]) rfl ⟨by rw [HR.out.1, HR.out.2], (K2.out.1.setCell (by simp) _).setCell (by simp) _⟩
  · have HR : Hid (fc = cc ∧ fr = ⟨#[]⟩) := HCC.out.1 c0
    obtain ⟨r0, r1, rf, _⟩ := K1.out.2.2
    have rf0 := rf 0
    have rf1 := rf 1
    clear rf HI HCC
    generalize ns.length = nn at *
    go_wp2_with fail
    have T2 := two_put (v0 := .int .i64 cc) (v1 := .string ⟨#[]⟩) K1.out.2.2
    exact bodyPost_ret (v := .agg #[.int .i64 cc, .string ⟨#[]⟩]) (by simp [results, Tryz.results32, go_sem, T2.c0, T2.c1]) rfl ⟨by rw [HR.out.1, HR.out.2], (K1.out.1.setCell (by simp) _).setCell (by simp) _⟩
end Go.Proofs.YtojcjpdgjohldaaGreatDoor
/-
  What FullKey answers.
-/
namespace Go.Proofs.YtojcjpdgjohldaaGreatDoor
open Go.ChangeShapes Go.WideShapes Go.ChangeAt Go.RowKit
theorem joinT_word {l : List Hdr} {x : ByteArray} (h0 : headsC l = 0) (hx : wordS x = true) : joinT l x = hmk (hjoinL (valsOf (lowS x) l)) := by
  have ha := askC_word h0 hx
  by_cases hv : valsOf (lowS x) l = []
  · rw [(join_none ha hv).2, hv]; rfl
  · exact (join_some ha hv).2
/-- What lies in memory while the names are told. -/
structure FLoop (w : World) (m h p : ByteArray) (hv : Value) (B5 : Nat) (o : ByteArray) (X : World) : Prop where
  two : Two X B5 (.int .i64 0) (.string o)
  res : Two X (w.heap.size + 1) (.int .i64 0) (.string ⟨#[]⟩)
  four : Four X w.heap.size (.string m) (.string h) (.string p) hv
  bel : Below w.heap.size w X
theorem FLoop.keep {w : World} {m h p : ByteArray} {hv : Value} {B5 : Nat} {o : ByteArray} {X X' : World} (k : FLoop w m h p hv B5 o X) (hb : Below X.heap.size X X') : FLoop w m h p hv B5 o X' :=
  ⟨k.two.keep hb, k.res.keep hb, k.four.keep hb, k.bel.trans (hb.mono k.bel.size)⟩
theorem FLoop.put {w : World} {m h p : ByteArray} {hv : Value} {B5 : Nat} {o : ByteArray} {X : World} (k : FLoop w m h p hv B5 o X) (hB : w.heap.size + 1 < B5) (y : ByteArray) : FLoop w m h p hv B5 y (X.setCell ⟨B5, 1, none⟩ (.string y)) := by
  have ne : ∀ (b i : Nat), b ≠ B5 → (⟨B5, 1, none⟩ : Addr) ≠ ⟨b, i, none⟩ := fun b i hb e => hb (congrArg Addr.block e).symm
  have ot : ∀ (b i : Nat), b ≠ B5 → (X.setCell ⟨B5, 1, none⟩ (.string y)).cell? ⟨b, i, none⟩ = X.cell? ⟨b, i, none⟩ := fun b i hb => World.cell?_setCell_other _ _ _ _ (ne b i hb)
  refine ⟨⟨?_, World.cell?_setCell_same _ _ _ k.two.c1, fun o => by rw [World.frozen?_setCell]; exact k.two.fr o, by simpa using k.two.lt⟩, ⟨by rw [ot _ _ (by omega)]; exact k.res.c0, by rw [ot _ _ (by omega)]; exact k.res.c1, fun o => by rw [World.frozen?_setCell]; exact k.res.fr o, by simpa using k.res.lt⟩, ⟨by rw [ot _ _ (by omega)]; exact k.four.c0, by rw [ot _ _ (by omega)]; exact k.four.c1, by rw [ot _ _ (by omega)]; exact k.four.c2, by rw [ot _ _ (by omega)]; exact k.four.c3, fun o => by rw [World.frozen?_setCell]; exact k.four.fr o, by simpa using k.four.lt⟩, k.bel.setCell (by simp only; omega) _⟩
  rw [World.cell?_setCell_other _ _ _ _ (fun e => by have := congrArg Addr.off e; simp only at this; omega)]
  exact k.two.c0
set_option maxRecDepth 100000 in
set_option maxHeartbeats 16000000 in
theorem implFull_any (E : Errs) (w : World) (m h p : ByteArray) (a : Option Addr) (cap : Nat) (l : List Hdr) (c : Option Addr) (nc : Nat) (ns : List ByteArray) (hl : l.length ≤ 1048576) (hcap : l.length ≤ cap) (hps : p.size ≤ 1048576) (hn : ns.length ≤ 1048576) (hset : SetIs w) (hE : ErrsIs w E) (hmx : MaxIs w) (hi : HdsIn w a l) (ht : TIn w c ns) :
    Calls Tryz.prog 31 #[.agg #[.string m, .string h, .string p, .slice a l.length cap], .slice c ns.length nc] w fun e w' => e = .returned (.agg #[.int .i64 (fullC m h p l ns), .string (fullR m h p l ns)]) ∧ Below w.heap.size w w' := by
  obtain ⟨W, hW⟩ : ∃ W, W = (w.alloc (.cells #[.string m, .string h, .string p, .slice a l.length cap] 26)).alloc (.cells #[.int .i64 0, .string ⟨#[]⟩] 50) := ⟨_, rfl⟩
  have HW : Hid (W = (w.alloc (.cells #[.string m, .string h, .string p, .slice a l.length cap] 26)).alloc (.cells #[.int .i64 0, .string ⟨#[]⟩] 50)) := hW
  have bW : Below w.heap.size w W := by rw [hW]; exact ((Below.refl _ _).alloc (Nat.le_refl _) _).alloc (by simp) _
  have f0 : Four W w.heap.size (.string m) (.string h) (.string p) (.slice a l.length cap) := by rw [hW]; exact (Four.new _ _ _ _ _ _).keep ((Below.refl _ _).alloc (Nat.le_refl _) _)
  have t0 : Two W (w.heap.size + 1) (.int .i64 0) (.string ⟨#[]⟩) := by
    rw [hW]
    have := Two.new (w.alloc (.cells #[.string m, .string h, .string p, .slice a l.length cap] 26)) (.int .i64 0) (.string ⟨#[]⟩) 50
    simpa using this
  have C := implKey_any E W m h p a cap l hl hcap hps (hset.below bW) (hE.below bW) (hmx.below bW) (hi.keep bW)
  have K0 : Hid (Below w.heap.size w W ∧ Four W w.heap.size (.string m) (.string h) (.string p) (.slice a l.length cap) ∧ Two W (w.heap.size + 1) (.int .i64 0) (.string ⟨#[]⟩)) := ⟨bW, f0, t0⟩
  have HI : Hid (∀ X, Below w.heap.size w X → HdsIn X a l ∧ TIn X c ns ∧ SetIs X) := fun X hb => ⟨hi.keep hb, ht.keep hb, hset.below hb⟩
  clear hW bW f0 t0 hi ht hset hE hmx
  have hc3 := K0.out.2.1.c3
  rw [HW.out] at hc3
  have HCC : Hid ((¬ reqC m h p l = 0 → fullC m h p l ns = reqC m h p l ∧ fullR m h p l ns = ⟨#[]⟩ ∧ keyR m h p l = ⟨#[]⟩) ∧ (reqC m h p l = 0 → ¬ namesC ns = 0 → fullC m h p l ns = namesC ns ∧ fullR m h p l ns = ⟨#[]⟩) ∧ (reqC m h p l = 0 → namesC ns = 0 → fullC m h p l ns = 0 ∧ fullR m h p l ns = hmk (fullL h p l ns)) ∧ (reqC m h p l = 0 → (keyR m h p l).data.toList = fullL h p l (ns.take 0) ∧ (keyR m h p l).size ≤ 500 ∧ headsC l = 0)) := by
    refine ⟨fun c0 => ⟨(fullC_bad c0).1, (fullC_bad c0).2, keyR_bad c0⟩, fun c0 c1 => fullC_names c0 c1, fun c0 c1 => fullC_ok c0 c1, fun c0 => ?_⟩
    obtain ⟨y1, y2, y3, y4⟩ := reqC_zero c0
    obtain ⟨z1, z2, z3⟩ := method_size y1
    exact ⟨by rw [keyR_ok c0, hmk_list]; rfl, by rw [keyR_ok c0, hmk_size]; exact keyT_len z2 z3, y2⟩
  have HJ : Hid (headsC l = 0 → ∀ X (x : ByteArray), Below w.heap.size w X → wordS x = true → Calls Tryz.prog 92 #[.slice a l.length cap, .string x] X fun e w' => e = .returned (.agg #[.int .i64 (joinC l x), .string (hmk (hjoinL (valsOf (lowS x) l)))]) ∧ Below X.heap.size X w') := fun h0 X x hb hx => by
    have := implJoin_any X a cap l x hl hcap (HI.out X hb).2.2 (HI.out X hb).1
    rw [joinT_word h0 hx] at this
    exact this
  generalize l.length = ln at *
  generalize fullC m h p l ns = fc at *
  generalize fullR m h p l ns = fr at *
  generalize keyR m h p l = kr at *
  generalize reqC m h p l = cc at *
  go_enter Tryz.func31, Tryz.ntmps31
  go_wp2_with fail
  rw [← HW.out]
  refine C.mono ?_
  rintro e w1 ⟨rfl, hb1⟩
  obtain ⟨V, hV⟩ : ∃ V, V = w1.alloc (.cells #[.int .i64 cc, .string kr] 50) := ⟨_, rfl⟩
  have HV : Hid (V = w1.alloc (.cells #[.int .i64 cc, .string kr] 50)) := hV
  have aV : Below w1.heap.size w1 V := by rw [hV]; exact (Below.refl _ _).alloc (Nat.le_refl _) _
  have tV : Two V w1.heap.size (.int .i64 cc) (.string kr) := by rw [hV]; exact Two.new _ _ _ _
  have b1 := K0.out.1.trans (hb1.mono K0.out.1.size)
  have K1 : Hid (Below w.heap.size w V ∧ Four V w.heap.size (.string m) (.string h) (.string p) (.slice a ln cap) ∧ Two V (w.heap.size + 1) (.int .i64 0) (.string ⟨#[]⟩) ∧ Two V w1.heap.size (.int .i64 cc) (.string kr)) := ⟨b1.trans (aV.mono b1.size), (K0.out.2.1.keep hb1).keep aV, (K0.out.2.2.keep hb1).keep aV, tV⟩
  have hB5 : w.heap.size + 1 < w1.heap.size := (K0.out.2.2.keep hb1).lt
  clear C hb1 K0 HW hc3 hV aV tV b1
  obtain ⟨d0, d1, df, _⟩ := K1.out.2.2.2
  obtain ⟨r0, r1, rf, _⟩ := K1.out.2.2.1
  have rf0 := rf 0
  have rf1 := rf 1
  have HB5 : Hid (w.heap.size + 1 < w1.heap.size) := hB5
  clear rf df hB5
  by_cases c0 : cc = 0
  · subst c0
    obtain ⟨k1, k2, hc0⟩ := HCC.out.2.2.2 rfl
    have HK : Hid (kr.data.toList = fullL h p l (ns.take 0)) := k1
    have HJ2 := HJ.out hc0
    have HJW : Hid (∀ X (x : ByteArray), Below w.heap.size w X → wordS x = true → Calls Tryz.prog 92 #[.slice a ln cap, .string x] X fun e w' => e = .returned (.agg #[.int .i64 (joinC l x), .string (hmk (hjoinL (valsOf (lowS x) l)))]) ∧ Below X.heap.size X w') := HJ2
    have HL0 : Hid (headsC l = 0) := hc0
    have HNB : Hid (¬ namesC ns = 0 → fc = namesC ns ∧ fr = ⟨#[]⟩) := HCC.out.2.1 rfl
    have HNO : Hid (namesC ns = 0 → fc = 0 ∧ fr = hmk (fullL h p l ns)) := HCC.out.2.2.1 rfl
    clear HCC HJ HJ2 k1 hc0
    by_cases h4 : 4 < ns.length
    · have HR : Hid (fc = 2 ∧ fr = ⟨#[]⟩) := by
        have e := namesC_many h4
        have := HNB.out (by rw [e]; omega)
        rw [e] at this
        exact this
      have g4 : (4 : Int) < ns.length := by omega
      clear HNB HNO HJW HI
      generalize ns.length = n at *
      rw [HV.out] at d0 d1 r0 r1 rf0 rf1
      go_wp2_with fail
      rw [← HV.out]
      have T2 := two_put (v0 := .int .i64 2) (v1 := .string ⟨#[]⟩) K1.out.2.2.1
      exact bodyPost_ret (v := .agg #[.int .i64 2, .string ⟨#[]⟩]) (by simp [results, Tryz.results31, go_sem, T2.c0, T2.c1]) rfl ⟨by rw [HR.out.1, HR.out.2], (K1.out.1.setCell (by simp) _).setCell (by simp) _⟩
    · have HBAD : Hid (wordsA ns = false → fc = 5 ∧ fr = ⟨#[]⟩) := fun hw => by
        have e := namesC_bad h4 hw
        have := HNB.out (by rw [e]; omega)
        rw [e] at this
        exact this
      have HOK : Hid (wordsA ns = true → fc = 0 ∧ fr = hmk (fullL h p l ns)) := fun hw => HNO.out (namesC_ok h4 hw)
      have g4 : ¬ (4 : Int) < ns.length := by omega
      have K2 : Hid (FLoop w m h p (.slice a ln cap) w1.heap.size kr V) := ⟨K1.out.2.2.2, K1.out.2.2.1, K1.out.2.1, K1.out.1⟩
      have hn4 : ns.length ≤ 4 := by omega
      clear HNB HNO K1
      generalize hnn : ns.length = n at *
      have HN : Hid (ns.length = n) := hnn
      clear hnn
      rw [HV.out] at d0 d1 r0 r1 rf0 rf1
      go_wp2_with fail
      rw [← HV.out]
      clear d0 d1 r0 r1 rf0 rf1 HV
      generalize w1.heap.size = B5 at *
      go_loopw [20] (fun i wr => ∃ (k : Nat) (o : ByteArray), k ≤ n ∧ i = .int .i64 k ∧ o.data.toList = fullL h p l (ns.take k) ∧ o.size ≤ 500 + k * 4200 ∧ (∀ (j : Nat) x, j < k → ns[j]? = some x → wordS x = true) ∧ FLoop w m h p (.slice a ln cap) B5 o wr) (fun i _ => n - (intOf i).toNat)
      case atStart => exact ⟨0, kr, Nat.zero_le _, rfl, HK.out, by omega, fun j x hj _ => absurd hj (by omega), K2.out⟩
      case round =>
        obtain ⟨k, o, hk, rfl, ho, hos, hwd, hF⟩ := hrel
        have HO : Hid (o.data.toList = fullL h p l (ns.take k)) := ho
        have HWD : Hid (∀ (j : Nat) x, j < k → ns[j]? = some x → wordS x = true) := hwd
        have HF : Hid (FLoop w m h p (.slice a ln cap) B5 o wr) := hF
        have hos2 : o.size ≤ 20000 := by omega
        clear ho hwd hF HK K2 k2
        by_cases hlt : k < n
        · obtain ⟨x, hx⟩ : ∃ r, ns[k]? = some r := ⟨ns[k]'(by have := HN.out; omega), List.getElem?_eq_getElem _⟩
          have HX : Hid (ns[k]? = some x) := hx
          rcases (HI.out wr HF.out.bel).2.1 with hh | ⟨b, off, rfl, hat⟩
          · subst hh; simp at hx
          have p1 := hat k x hx
          have C := implIsWord_set x wr (HI.out wr HF.out.bel).2.2
          have gk : (k : Int) < n := by omega
          clear hx hat
          by_cases hw : wordS x = true
          · rw [hw] at C
            have hxm := hword_max hw
            have HT : Hid (fullL h p l (ns.take (k + 1)) = addN l (fullL h p l (ns.take k)) x) := fullL_take HX.out
            have hjl := hjoin_len HL0.out (lowS x)
            have HJX : Hid (∀ X, Below w.heap.size w X → Calls Tryz.prog 92 #[.slice a ln cap, .string x] X fun e w' => e = .returned (.agg #[.int .i64 (joinC l x), .string (hmk (hjoinL (valsOf (lowS x) l)))]) ∧ Below X.heap.size X w') := fun X hb => HJW.out X x hb hw
            obtain ⟨jt, hjt⟩ : ∃ j : ByteArray, j = hmk (hjoinL (valsOf (lowS x) l)) := ⟨_, rfl⟩
            have sjt : jt.size ≤ 4040 := by rw [hjt, hmk_size]; exact hjl
            rw [← hjt] at HJX
            have HSN : Hid (∀ X, Calls Tryz.prog 91 #[.string x] X fun e w' => e = .returned (.string (lowS x)) ∧ Below X.heap.size X w') := fun X => smallName_any x X (by omega)
            have slw : (lowS x).size ≤ 64 := by rw [lowS_size]; exact hxm
            obtain ⟨lw, hlw⟩ : ∃ lw, lw = lowS x := ⟨_, rfl⟩
            rw [← hlw] at slw HSN
            have lit1 : (⟨#[32]⟩ : ByteArray).size = 1 := rfl
            have lit2 : (⟨#[61]⟩ : ByteArray).size = 1 := rfl
            obtain ⟨y1, hy1⟩ : ∃ y : ByteArray, y = ⟨#[32]⟩ ++ lw := ⟨_, rfl⟩
            have s1 : y1.size = 1 + lw.size := by rw [hy1, ByteArray.size_append, lit1]
            obtain ⟨y2, hy2⟩ : ∃ y : ByteArray, y = y1 ++ ⟨#[61]⟩ := ⟨_, rfl⟩
            have s2 : y2.size = y1.size + 1 := by rw [hy2, ByteArray.size_append, lit2]
            obtain ⟨y3, hy3⟩ : ∃ y : ByteArray, y = y2 ++ jt := ⟨_, rfl⟩
            have s3 : y3.size = y2.size + jt.size := by rw [hy3, ByteArray.size_append]
            obtain ⟨y4, hy4⟩ : ∃ y : ByteArray, y = o ++ y3 := ⟨_, rfl⟩
            have s4 : y4.size = o.size + y3.size := by rw [hy4, ByteArray.size_append]
            have a1 : ∀ X, (Op.stringOp .add ⟨#[32]⟩ lw).run Tryz.prog X = .ok (.string y1) X := fun X => by rw [hy1]; exact run_string_add_sum X _ _ (by omega)
            have a2 : ∀ X, (Op.stringOp .add y1 ⟨#[61]⟩).run Tryz.prog X = .ok (.string y2) X := fun X => by rw [hy2]; exact run_string_add_sum X _ _ (by omega)
            have a3 : ∀ X, (Op.stringOp .add y2 jt).run Tryz.prog X = .ok (.string y3) X := fun X => by rw [hy3]; exact run_string_add_sum X _ _ (by omega)
            have a4 : ∀ X, (Op.stringOp .add o y3).run Tryz.prog X = .ok (.string y4) X := fun X => by rw [hy4]; exact run_string_add_sum X _ _ (by omega)
            have HR : Hid (y4.data.toList = fullL h p l (ns.take (k + 1)) ∧ y4.size ≤ 500 + (k + 1) * 4200) := by
              refine ⟨?_, by omega⟩
              rw [HT.out, addN, hy4, hy3, hy2, hy1, happ_list, happ_list, happ_list, happ_list, HO.out, hjt, hlw, hmk_list]
              simp
            have HWD2 : Hid (∀ (j : Nat) z, j < k + 1 → ns[j]? = some z → wordS z = true) := fun j z hj hz => by
              by_cases e : j = k
              · subst e
                rw [HX.out] at hz
                obtain rfl := Option.some.inj hz
                exact hw
              · exact HWD.out j z (by omega) hz
            clear hjt hlw lit1 lit2 hy1 hy2 hy3 hy4 s1 s2 s3 s4 HT hw hjl HJW HWD HX HBAD HOK HO
            generalize joinC l x = jc at *
            go_wp2_with fail
            refine C.mono ?_
            rintro e w2 ⟨rfl, hb2⟩
            have HF2 : Hid (FLoop w m h p (.slice a ln cap) B5 o w2) := HF.out.keep hb2
            clear C hb2 HF p1
            have KP : Hid (∀ X, Below w2.heap.size w2 X → X.cell? ⟨B5, 1, none⟩ = some (.string o) ∧ X.cell? ⟨w.heap.size, 3, none⟩ = some (.slice a ln cap) ∧ X.frozen? ⟨B5, 1, none⟩ = false) := fun X hb => ⟨(HF2.out.keep hb).two.c1, (HF2.out.keep hb).four.c3, (HF2.out.keep hb).two.fr 1⟩
            have KB : Hid (∀ X, Below w2.heap.size w2 X → Below w.heap.size w X) := fun X hb => (HF2.out.keep hb).bel
            have KZ : Hid (∀ X, Below w2.heap.size w2 X → FLoop w m h p (.slice a ln cap) B5 y4 (X.setCell ⟨B5, 1, none⟩ (.string y4))) := fun X hb => (HF2.out.keep hb).put HB5.out y4
            have B0 : Hid (Below w2.heap.size w2 w2.drew) := (Below.refl _ _).drew
            obtain ⟨g1, g3, gf⟩ := KP.out w2 (Below.refl _ _)
            have hft := f_field_text
            clear HF2
            go_wp2_with fail
            go_region_with (first
              | (go_at_call 91; refine (HSN.out _).mono ?_; rintro e wa ⟨rfl, hba⟩; (first | have BA : Hid (Below w2.heap.size w2 wa) := BJ.out.trans (hba.mono BJ.out.size) | have BA : Hid (Below w2.heap.size w2 wa) := B0.out.trans (hba.mono B0.out.size)); clear hba; obtain ⟨ga1, ga3, gaf⟩ := KP.out _ BA.out)
              | (go_at_call 92; (first | refine (HJX.out _ (KB.out _ BA.out)).mono ?_ | refine (HJX.out _ (KB.out _ B0.out)).mono ?_); rintro e wj ⟨rfl, hbj⟩; (first | have BJ : Hid (Below w2.heap.size w2 wj) := BA.out.trans (hbj.mono BA.out.size) | have BJ : Hid (Below w2.heap.size w2 wj) := B0.out.trans (hbj.mono B0.out.size)); clear hbj; obtain ⟨gj1, gj3, gjf⟩ := KP.out _ BJ.out))
            all_goals
              (go_wp2_with fail
               go_roundw
               case rel => first | exact ⟨k + 1, y4, by omega, by go_num, HR.out.1, HR.out.2, HWD2.out, KZ.out _ BA.out⟩ | exact ⟨k + 1, y4, by omega, by go_num, HR.out.1, HR.out.2, HWD2.out, KZ.out _ BJ.out⟩
               case measure => simp [intOf]; omega)
          · have hwf : wordS x = false := by simpa using hw
            rw [hwf] at C
            have HR : Hid (fc = 5 ∧ fr = ⟨#[]⟩) := HBAD.out (wordsA_not HX.out hwf)
            clear hw hwf HBAD HOK HJW HX HWD HO
            go_wp2_with fail
            refine C.mono ?_
            rintro e w2 ⟨rfl, hb2⟩
            have HF2 : Hid (FLoop w m h p (.slice a ln cap) B5 o w2) := HF.out.keep hb2
            clear C hb2 HF p1
            obtain ⟨r0, r1, rf, _⟩ := HF2.out.res
            have rf0 := rf 0
            have rf1 := rf 1
            clear rf
            go_wp2_with fail
            have T2 := two_put (v0 := .int .i64 5) (v1 := .string ⟨#[]⟩) HF2.out.res
            exact bodyPost_ret (v := .agg #[.int .i64 5, .string ⟨#[]⟩]) (by simp [results, Tryz.results31, go_sem, T2.c0, T2.c1]) rfl ⟨by rw [HR.out.1, HR.out.2], (HF2.out.bel.setCell (by simp) _).setCell (by simp) _⟩
        · have hall : wordsA ns = true := wordsA_of fun j x hx => HWD.out j x (by have := (List.getElem?_eq_some_iff.1 hx).1; have := HN.out; omega) hx
          have ek : ns.take k = ns := List.take_of_length_le (by have := HN.out; omega)
          have HR : Hid (fc = 0 ∧ fr = o) := by
            obtain ⟨e1, e2⟩ := HOK.out hall
            refine ⟨e1, ?_⟩
            rw [e2]
            symm
            refine hof_list ?_
            rw [HO.out, ek]
          clear hall ek HBAD HOK HO HWD HJW
          obtain ⟨r0, r1, rf, _⟩ := HF.out.res
          have rf0 := rf 0
          have rf1 := rf 1
          clear rf
          obtain ⟨d0, d1, _, _⟩ := HF.out.two
          have gk : ¬ (k : Int) < n := by omega
          go_wp2_with fail
          have T2 := two_put (v0 := .int .i64 0) (v1 := .string o) HF.out.res
          exact bodyPost_ret (v := .agg #[.int .i64 0, .string o]) (by simp [results, Tryz.results31, go_sem, T2.c0, T2.c1]) rfl ⟨by rw [HR.out.1, HR.out.2], (HF.out.bel.setCell (by simp) _).setCell (by simp) _⟩
  · have HR : Hid (fc = cc ∧ fr = kr) := by
      obtain ⟨e1, e2, e3⟩ := HCC.out.1 c0
      exact ⟨e1, by rw [e2, e3]⟩
    clear HCC HJ HI
    generalize ns.length = n at *
    rw [HV.out] at d0 d1 r0 r1 rf0 rf1
    go_wp2_with fail
    rw [← HV.out]
    have T2 := two_put (v0 := .int .i64 cc) (v1 := .string kr) K1.out.2.2.1
    exact bodyPost_ret (v := .agg #[.int .i64 cc, .string kr]) (by simp [results, Tryz.results31, go_sem, T2.c0, T2.c1]) rfl ⟨by rw [HR.out.1, HR.out.2], (K1.out.1.setCell (by simp) _).setCell (by simp) _⟩
end Go.Proofs.YtojcjpdgjohldaaGreatDoor
/-
  Two text results that are alike.
-/
namespace Go.Proofs.YtojcjpdgjohldaaGreatDoor
open Go.ChangeShapes Go.WideShapes Go.ChangeAt Go.RowKit
set_option maxHeartbeats 400000 in
theorem eqText_same (c : Int) (v : ByteArray) (w : World) :
    Calls Tryz.prog 50 #[.agg #[.int .i64 c, .string v], .agg #[.int .i64 c, .string v]] w fun e w' => e = .returned (.bool true) ∧ Below w.heap.size w w' := by
  go_enter Tryz.func50, Tryz.ntmps50
  go_wp2
  go_ret
  exact ⟨rfl, ((Below.refl _ _).alloc (Nat.le_refl _) _).alloc (by simp) _⟩
end Go.Proofs.YtojcjpdgjohldaaGreatDoor
/-
  The law of FullKey.
-/
namespace Go.Proofs.YtojcjpdgjohldaaGreatDoor
open Go.ChangeShapes Go.WideShapes Go.ChangeAt Go.RowKit
set_option maxRecDepth 100000 in
set_option maxHeartbeats 8000000 in
theorem lawFullKey (E : Errs) (w : World) (m h p : ByteArray) (a : Option Addr) (cap : Nat) (l : List Hdr) (c : Option Addr) (nc : Nat) (ns : List ByteArray) (hset : SetIs w) (hE : ErrsIs w E) (hmx : MaxIs w) (z1 : m.size ≤ maxLen) (z2 : h.size ≤ maxLen) (z3 : p.size ≤ maxLen) (hl : l.length ≤ maxLen) (hz : SmallHdrs l) (hi : HdsIn w a l) (hnl : ns.length ≤ maxLen) (hns : ∀ x ∈ ns, x.size ≤ maxLen) (ht : TIn w c ns) :
    Calls Tryz.prog 9 #[.agg #[.string m, .string h, .string p, .slice a l.length cap], .slice c ns.length nc] w fun e w' => e = .returned (.bool true) ∧ Below w.heap.size w w' := by
  obtain ⟨W, hW⟩ : ∃ W, W = w.alloc (.cells #[.string m, .string h, .string p, .slice a l.length cap] 56) := ⟨_, rfl⟩
  have HW : Hid (W = w.alloc (.cells #[.string m, .string h, .string p, .slice a l.length cap] 56)) := hW
  have bW : Below w.heap.size w W := by rw [hW]; exact (Below.refl _ _).alloc (Nat.le_refl _) _
  have fW : Four W w.heap.size (.string m) (.string h) (.string p) (.slice a l.length cap) := by rw [hW]; exact Four.new _ _ _ _ _ _
  have K0 : Hid (Below w.heap.size w W ∧ Four W w.heap.size (.string m) (.string h) (.string p) (.slice a l.length cap)) := ⟨bW, fW⟩
  have HZ := szRequest_any W m h p a cap l z1 z2 z3 hl hz (hi.keep bW) 1048576 (by omega) (by omega)
  have HR : Hid (¬ szR 1048576 m h p l < 0 → m.size ≤ 1048576 ∧ h.size ≤ 1048576 ∧ p.size ≤ 1048576 ∧ l.length ≤ 1048576 ∧ szR 1048576 m h p l ≤ 1048576) := szR_room (by omega)
  have HI : Hid (∀ X, Below w.heap.size w X → HdsIn X a l) := fun X hb => hi.keep hb
  have HS : Hid (∀ X, Below w.heap.size w X → SetIs X ∧ MaxIs X) := fun X hb => ⟨hset.below hb, hmx.below hb⟩
  have HE0 : Hid (∀ X, Below w.heap.size w X → ErrsIs X E) := fun X hb => hE.below hb
  have HTI : Hid (∀ X, Below w.heap.size w X → TIn X c ns) := fun X hb => ht.keep hb
  have HSS : Hid (∀ X left, Below w.heap.size w X → 0 ≤ left → left ≤ 1048576 → Calls Tryz.prog 51 #[.slice c ns.length nc, .int .i64 left] X fun e w' => e = .returned (.int .i64 (szTL left ns)) ∧ Below X.heap.size X w') := fun X left hb h0 h1 => szStringS_any X c nc ns hnl (ht.keep hb) hns left h0 h1
  generalize szR 1048576 m h p l = z at *
  clear hW bW fW hi hset hE hz z1 z2 z3 hl hmx ht hns hnl
  go_enter Tryz.func9, Tryz.ntmps9
  go_wp2_with fail
  rw [← HW.out]
  refine HZ.mono ?_
  rintro e w1 ⟨rfl, hb1⟩
  have K1 : Hid (Below w.heap.size w w1 ∧ Four w1 w.heap.size (.string m) (.string h) (.string p) (.slice a l.length cap)) := ⟨K0.out.1.trans (hb1.mono K0.out.1.size), K0.out.2.keep hb1⟩
  clear HZ HW hb1 K0
  by_cases cz : z < 0
  · have KB : Hid (Below w.heap.size w w1) := K1.out.1
    clear K1 HR HI HS HE0 HTI HSS
    go_wp2_with fail
    go_ret
    exact ⟨rfl, KB.out⟩
  obtain ⟨y1, y2, y3, y4, y5⟩ := HR.out (by omega)
  have CS := HSS.out w1 z K1.out.1 (by omega) (by omega)
  have HNR : Hid (¬ szTL z ns < 0 → ns.length ≤ 1048576 ∧ ∀ x ∈ ns, x.size ≤ 1048576) := szTL_room (by omega)
  generalize szTL z ns = z2 at *
  clear HSS
  go_wp2_with fail
  refine CS.mono ?_
  rintro e w9 ⟨rfl, hb9⟩
  have K9 : Hid (Below w.heap.size w w9 ∧ Four w9 w.heap.size (.string m) (.string h) (.string p) (.slice a l.length cap)) := ⟨K1.out.1.trans (hb9.mono K1.out.1.size), K1.out.2.keep hb9⟩
  clear K1 CS hb9
  try clear w1
  by_cases cz2 : z2 < 0
  · have KB : Hid (Below w.heap.size w w9) := K9.out.1
    clear K9 HR HI HS HE0 HTI HNR
    go_wp2_with fail
    go_ret
    exact ⟨rfl, KB.out⟩
  obtain ⟨yn, _⟩ := HNR.out (by omega)
  clear HNR
  have HT : Hid (∀ X, Below w.heap.size w X → Calls Tryz.prog 37 #[.agg #[.string m, .string h, .string p, .slice a l.length cap]] X fun e w' => e = .returned (.agg #[.string m, .string h, .string p, .slice (some ⟨X.heap.size + 3, 0, none⟩) l.length l.length]) ∧ QMine w' (X.heap.size + 3) l ∧ Below X.heap.size X w') := fun X hb => toRequest_any X m h p a cap l y4 (HI.out X hb)
  have HF : Hid (∀ X b g, QMine X b l → TMine X g ns → Calls Tryz.prog 32 #[.agg #[.string m, .string h, .string p, .slice (some ⟨b, 0, none⟩) l.length l.length], .slice (some ⟨g, 0, none⟩) ns.length ns.length] X fun e w' => e = .returned (.agg #[.int .i64 (fullC m h p l ns), .string (fullR m h p l ns)]) ∧ Below X.heap.size X w') := fun X b g hq hg => specFull_any X m h p _ _ l _ _ ns y4 yn (.inr ⟨b, 0, rfl, hq.at0⟩) hg.in
  have HG : Hid (∀ X b g, Below w.heap.size w X → QMine X b l → TMine X g ns → Calls Tryz.prog 31 #[.agg #[.string m, .string h, .string p, .slice (some ⟨b, 0, none⟩) l.length l.length], .slice (some ⟨g, 0, none⟩) ns.length ns.length] X fun e w' => e = .returned (.agg #[.int .i64 (fullC m h p l ns), .string (fullR m h p l ns)]) ∧ Below X.heap.size X w') := fun X b g hb hq hg => implFull_any E X m h p _ _ l _ _ ns y4 (Nat.le_refl _) y3 yn (HS.out X hb).1 (HE0.out X hb) (HS.out X hb).2 (.inr ⟨b, 0, rfl, hq.at0⟩) hg.in
  have HTS : Hid (∀ X, Below w.heap.size w X → Calls Tryz.prog 52 #[.slice c ns.length nc] X fun e w' => e = .returned (.slice (some ⟨X.heap.size, 0, none⟩) ns.length ns.length) ∧ TMine w' X.heap.size ns ∧ Below X.heap.size X w') := fun X hb => toStringS_any X c nc ns yn (HTI.out X hb)
  have HQS : Hid (∀ X b1 b2, TMine X b1 ns → TMine X b2 ns → Calls Tryz.prog 53 #[.slice (some ⟨b1, 0, none⟩) ns.length ns.length, .slice (some ⟨b2, 0, none⟩) ns.length ns.length] X fun e w' => e = .returned (.bool true) ∧ Below X.heap.size X w') := fun X b1 b2 h1 h2 => eqStringS_same X _ _ _ _ ns yn h1.in h2.in
  have HQ : Hid (∀ X b1 b2, QMine X b1 l → QMine X b2 l → Calls Tryz.prog 39 #[.agg #[.string m, .string h, .string p, .slice (some ⟨b1, 0, none⟩) l.length l.length], .agg #[.string m, .string h, .string p, .slice (some ⟨b2, 0, none⟩) l.length l.length]] X fun e w' => e = .returned (.bool true) ∧ Below X.heap.size X w') := fun X b1 b2 h1 h2 => eqRequest_same X m h p b1 b2 l y4 h1.at0 h2.at0
  clear HR HI HS HE0 y1 y2 y3 y5 HTI
  generalize l.length = n at *
  generalize ns.length = nn at *
  generalize fullC m h p l ns = c0 at *
  generalize fullR m h p l ns = kr at *
  have C1 := HT.out w9 K9.out.1
  obtain ⟨q0, q1, q2, q3, _, _⟩ := K9.out.2
  go_wp2_with fail
  refine C1.mono ?_
  rintro e w2 ⟨rfl, hm2, hb2⟩
  have K2 : Hid (Below w.heap.size w w2 ∧ Four w2 w.heap.size (.string m) (.string h) (.string p) (.slice a n cap) ∧ QMine w2 (w9.heap.size + 3) l) := ⟨K9.out.1.trans (hb2.mono K9.out.1.size), K9.out.2.keep hb2, hm2⟩
  clear K9 C1 q0 q1 q2 q3 hb2 hm2
  have C1b := HTS.out w2 K2.out.1
  generalize w9.heap.size + 3 = bq at *
  try clear w9
  go_wp2_with fail
  refine C1b.mono ?_
  rintro e w2b ⟨rfl, hm2, hb2⟩
  have K2b : Hid (Below w.heap.size w w2b ∧ Four w2b w.heap.size (.string m) (.string h) (.string p) (.slice a n cap)) := ⟨K2.out.1.trans (hb2.mono K2.out.1.size), K2.out.2.1.keep hb2⟩
  have C2 := HF.out w2b _ _ (K2.out.2.2.keep hb2) hm2
  clear K2 C1b hb2 hm2 HF
  go_wp2_with fail
  refine C2.mono ?_
  rintro e w3 ⟨rfl, hb3⟩
  obtain ⟨V3, hV3⟩ : ∃ V, V = w3.alloc (.cells #[.int .i64 c0, .string kr] 50) := ⟨_, rfl⟩
  have HV3 : Hid (V3 = w3.alloc (.cells #[.int .i64 c0, .string kr] 50)) := hV3
  have a3 : Below w3.heap.size w3 V3 := by rw [hV3]; exact (Below.refl _ _).alloc (Nat.le_refl _) _
  have t3 : Two V3 w3.heap.size (.int .i64 c0) (.string kr) := by rw [hV3]; exact Two.new _ _ _ _
  have b3 := K2b.out.1.trans (hb3.mono K2b.out.1.size)
  have K3 : Hid (Below w.heap.size w V3 ∧ Four V3 w.heap.size (.string m) (.string h) (.string p) (.slice a n cap) ∧ Two V3 w3.heap.size (.int .i64 c0) (.string kr)) := ⟨b3.trans (a3.mono b3.size), (K2b.out.2.keep hb3).keep a3, t3⟩
  clear K2b C2 hb3 hV3 a3 t3 b3
  try clear w2b
  try clear w2
  have C3 := HT.out V3 K3.out.1
  obtain ⟨q0, q1, q2, q3, _, _⟩ := K3.out.2.1
  rw [HV3.out] at q0 q1 q2 q3
  go_wp2_with fail
  rw [← HV3.out]
  refine C3.mono ?_
  rintro e w4 ⟨rfl, hm4, hb4⟩
  clear q0 q1 q2 q3
  obtain ⟨V, hV⟩ : ∃ V, V = w4.alloc (.cells #[.string m, .string h, .string p, .slice (some ⟨V3.heap.size + 3, 0, none⟩) n n] 26) := ⟨_, rfl⟩
  have HV : Hid (V = w4.alloc (.cells #[.string m, .string h, .string p, .slice (some ⟨V3.heap.size + 3, 0, none⟩) n n] 26)) := hV
  have aV : Below w4.heap.size w4 V := by rw [hV]; exact (Below.refl _ _).alloc (Nat.le_refl _) _
  have fV : Four V w4.heap.size (.string m) (.string h) (.string p) (.slice (some ⟨V3.heap.size + 3, 0, none⟩) n n) := by rw [hV]; exact Four.new _ _ _ _ _ _
  have b4 := K3.out.1.trans (hb4.mono K3.out.1.size)
  have K4 : Hid (Below w.heap.size w V ∧ Four V w.heap.size (.string m) (.string h) (.string p) (.slice a n cap) ∧ Four V w4.heap.size (.string m) (.string h) (.string p) (.slice (some ⟨V3.heap.size + 3, 0, none⟩) n n) ∧ QMine V (V3.heap.size + 3) l ∧ Two V w3.heap.size (.int .i64 c0) (.string kr)) := ⟨b4.trans (aV.mono b4.size), (K3.out.2.1.keep hb4).keep aV, fV, hm4.keep aV, (K3.out.2.2.keep hb4).keep aV⟩
  clear K3 C3 hb4 hm4 hV aV fV b4 HV3
  generalize w3.heap.size = br at *
  generalize V3.heap.size + 3 = bx at *
  try clear V3
  try clear w3
  have C3b := HTS.out V K4.out.1
  go_wp2_with fail
  rw [← HV.out]
  refine C3b.mono ?_
  rintro e w4b ⟨rfl, hm4, hb4⟩
  have K4b : Hid (Below w.heap.size w w4b ∧ Four w4b w.heap.size (.string m) (.string h) (.string p) (.slice a n cap) ∧ Four w4b w4.heap.size (.string m) (.string h) (.string p) (.slice (some ⟨bx, 0, none⟩) n n) ∧ QMine w4b bx l ∧ Two w4b br (.int .i64 c0) (.string kr) ∧ TMine w4b V.heap.size ns) := ⟨K4.out.1.trans (hb4.mono K4.out.1.size), K4.out.2.1.keep hb4, K4.out.2.2.1.keep hb4, K4.out.2.2.2.1.keep hb4, K4.out.2.2.2.2.keep hb4, hm4⟩
  clear K4 C3b hb4 hm4 HV
  generalize V.heap.size = bt at *
  try clear V
  generalize w4.heap.size = bl at *
  try clear w4
  have C4 := HG.out w4b _ _ K4b.out.1 K4b.out.2.2.2.1 K4b.out.2.2.2.2.2
  obtain ⟨e0, e1, e2, e3, _, _⟩ := K4b.out.2.2.1
  go_wp2_with fail
  refine C4.mono ?_
  rintro e w5 ⟨rfl, hb5⟩
  obtain ⟨V5, hV5⟩ : ∃ V, V = w5.alloc (.cells #[.int .i64 c0, .string kr] 50) := ⟨_, rfl⟩
  have HV5 : Hid (V5 = w5.alloc (.cells #[.int .i64 c0, .string kr] 50)) := hV5
  have a5 : Below w5.heap.size w5 V5 := by rw [hV5]; exact (Below.refl _ _).alloc (Nat.le_refl _) _
  have t5 : Two V5 w5.heap.size (.int .i64 c0) (.string kr) := by rw [hV5]; exact Two.new _ _ _ _
  have b5 := K4b.out.1.trans (hb5.mono K4b.out.1.size)
  have K5 : Hid (Below w.heap.size w V5 ∧ Four V5 w.heap.size (.string m) (.string h) (.string p) (.slice a n cap) ∧ Four V5 bl (.string m) (.string h) (.string p) (.slice (some ⟨bx, 0, none⟩) n n) ∧ QMine V5 bx l ∧ Two V5 br (.int .i64 c0) (.string kr) ∧ Two V5 w5.heap.size (.int .i64 c0) (.string kr) ∧ TMine V5 bt ns) := ⟨b5.trans (a5.mono b5.size), (K4b.out.2.1.keep hb5).keep a5, (K4b.out.2.2.1.keep hb5).keep a5, (K4b.out.2.2.2.1.keep hb5).keep a5, (K4b.out.2.2.2.2.1.keep hb5).keep a5, t5, (K4b.out.2.2.2.2.2.keep hb5).keep a5⟩
  clear K4b C4 hb5 HG hV5 a5 t5 b5 e0 e1 e2 e3
  try clear w4b
  have C5 := eqText_same c0 kr V5
  obtain ⟨d0, d1, _, _⟩ := K5.out.2.2.2.2.1
  obtain ⟨g0, g1, _, _⟩ := K5.out.2.2.2.2.2.1
  rw [HV5.out] at d0 d1 g0 g1
  go_wp2_with fail
  rw [← HV5.out]
  refine C5.mono ?_
  rintro e w6 ⟨rfl, hb6⟩
  have HK : Hid (∀ X, Below w6.heap.size w6 X → Below w.heap.size w X ∧ Four X w.heap.size (.string m) (.string h) (.string p) (.slice a n cap) ∧ Four X bl (.string m) (.string h) (.string p) (.slice (some ⟨bx, 0, none⟩) n n) ∧ QMine X bx l ∧ TMine X bt ns) := fun X hb => by
    have h6 := K5.out.1.trans (hb6.mono K5.out.1.size)
    exact ⟨h6.trans (hb.mono h6.size), (K5.out.2.1.keep hb6).keep hb, (K5.out.2.2.1.keep hb6).keep hb, (K5.out.2.2.2.1.keep hb6).keep hb, (K5.out.2.2.2.2.2.2.keep hb6).keep hb⟩
  clear C5 d0 d1 g0 g1 hb6 K5 HV5
  try clear V5
  try clear w5
  have B0 : Hid (Below w6.heap.size w6 w6.drew) := (Below.refl _ _).drew
  have HKS : Hid (∀ X, Below w6.heap.size w6 X → (X.cell? ⟨w.heap.size, 0, none⟩ = some (.string m) ∧ X.cell? ⟨w.heap.size, 1, none⟩ = some (.string h) ∧ X.cell? ⟨w.heap.size, 2, none⟩ = some (.string p) ∧ X.cell? ⟨w.heap.size, 3, none⟩ = some (.slice a n cap)) ∧ X.cell? ⟨bl, 0, none⟩ = some (.string m) ∧ X.cell? ⟨bl, 1, none⟩ = some (.string h) ∧ X.cell? ⟨bl, 2, none⟩ = some (.string p) ∧ X.cell? ⟨bl, 3, none⟩ = some (.slice (some ⟨bx, 0, none⟩) n n)) := fun X hb => ⟨⟨(HK.out X hb).2.1.c0, (HK.out X hb).2.1.c1, (HK.out X hb).2.1.c2, (HK.out X hb).2.1.c3⟩, (HK.out X hb).2.2.1.c0, (HK.out X hb).2.2.1.c1, (HK.out X hb).2.2.1.c2, (HK.out X hb).2.2.1.c3⟩
  go_wp2_with fail
  go_region_held3 (fun X => (X.cell? ⟨w.heap.size, 0, none⟩ = some (.string m) ∧ X.cell? ⟨w.heap.size, 1, none⟩ = some (.string h) ∧ X.cell? ⟨w.heap.size, 2, none⟩ = some (.string p) ∧ X.cell? ⟨w.heap.size, 3, none⟩ = some (.slice a n cap)) ∧ X.cell? ⟨bl, 0, none⟩ = some (.string m) ∧ X.cell? ⟨bl, 1, none⟩ = some (.string h) ∧ X.cell? ⟨bl, 2, none⟩ = some (.string p) ∧ X.cell? ⟨bl, 3, none⟩ = some (.slice (some ⟨bx, 0, none⟩) n n))
    (first | exact HKS.out _ BB.out | exact HKS.out _ BA.out | exact HKS.out _ B0.out)
    (first
    | (go_at_call 37; refine (HT.out _ (HK.out _ B0.out).1).mono ?_; rintro e wa ⟨rfl, hma, hba⟩; have MA : Hid (QMine wa _ l) := hma; have BA : Hid (Below w6.heap.size w6 wa) := B0.out.trans (hba.mono B0.out.size); clear hba hma)
    | (go_at_call 39; refine (HQ.out _ _ _ (HK.out _ BA.out).2.2.2.1 MA.out).mono ?_; rintro e wb ⟨rfl, hbb⟩; have BB : Hid (Below w6.heap.size w6 wb) := BA.out.trans (hbb.mono BA.out.size); clear hbb))
  all_goals
    (have CA := HTS.out _ (HK.out _ BB.out).1
     go_wp2_with fail
     refine CA.mono ?_
     rintro e wc ⟨rfl, hmc, hbc⟩
     have CB := HQS.out wc _ _ ((HK.out _ BB.out).2.2.2.2.keep hbc) hmc
     have KC : Hid (Below w.heap.size w wc) := (HK.out _ BB.out).1.trans (hbc.mono (HK.out _ BB.out).1.size)
     clear CA hmc hbc
     go_wp2_with fail
     refine CB.mono ?_
     rintro e wd ⟨rfl, hbd⟩
     have KD : Hid (Below w.heap.size w wd) := KC.out.trans (hbd.mono KC.out.size)
     clear CB hbd
     go_wp2_with fail
     go_ret
     exact ⟨rfl, KD.out⟩)
end Go.Proofs.YtojcjpdgjohldaaGreatDoor
/-
  Head lines that came in, opened.
-/
namespace Go.Proofs.YtojcjpdgjohldaaGreatDoor
open Go.ChangeShapes Go.WideShapes Go.ChangeAt Go.RowKit Go.Deep
theorem headerCells : Tryz.prog.cellsOf 168 = 2 := by kernel_rfl
theorem hOneS : Tryz.prog.cellsOf 9 = 1 := by kernel_rfl
theorem hdr_of {H : Type} {enc : TypeId × Value → H} {w : World} {base : Nat} {spare : Nat → Bool} {held : Bool} {fuel : Nat} {cs : List Value} {x : DataW H × List MemPlace}
    (h : DataW.trod enc Tryz.prog w base spare held fuel 168 cs = some x) : ∃ r : Hdr, cs = [.string r.name, .string r.value] ∧ r.name.size ≤ maxLen ∧ r.value.size ≤ maxLen := by
  obtain ⟨y0, y1, n, _, hl, h0, h2⟩ := trod_struct2 Tryz.underlying168 h
  rw [headerCells] at hl
  simp only [hOneS] at h0 h2
  obtain ⟨s0, e0, _, z0⟩ := DataW.trod_string Tryz.underlying9 h0
  obtain ⟨s2, e2, _, z2⟩ := DataW.trod_string Tryz.underlying9 h2
  match cs, hl with
  | [c0, c2], _ =>
    simp only [List.drop_zero, List.take_succ_cons, List.take_zero, List.drop_succ_cons, List.cons.injEq, and_true] at e0 e2
    exact ⟨⟨s0, s2⟩, by rw [e0, e2], z0, z2⟩
theorem open_headers {H : Type} {enc : TypeId × Value → H} {w : World} {base : Nat} {spare : Nat → Bool} {held : Bool} {fuel : Nat} {a : Option Addr} {len cap : Nat} {x : DataW H × List MemPlace}
    (h : DataW.trod enc Tryz.prog w base spare held fuel 54 [.slice a len cap] = some x) :
    ∃ l : List Hdr, l.length = len ∧ len ≤ maxLen ∧ SmallHdrs l ∧ (l = [] ∨ ∃ b off, a = some ⟨b, off, none⟩ ∧ HeadsAt w b off l) := by
  rcases open_slice Tryz.underlying54 h with ⟨hcs, _⟩ | ⟨A, len', cap', m, n, D, Pl, hcs, _, hl, hm, hmm, _, hel⟩
  · simp only [List.cons.injEq, Value.slice.injEq, and_true] at hcs
    obtain ⟨_, rfl, _⟩ := hcs
    exact ⟨[], rfl, by unfold maxLen; omega, fun i r hr => by simp at hr, .inl rfl⟩
  · simp only [List.cons.injEq, Value.slice.injEq, and_true] at hcs
    obtain ⟨rfl, rfl, rfl⟩ := hcs
    have hlm : len ≤ m := by rw [hmm]; split <;> omega
    have hrec : ∀ i, i < len → ∃ r : Hdr, w.cells? base (A.add (i * 2)) 2 = some [.string r.name, .string r.value] ∧ r.name.size ≤ maxLen ∧ r.value.size ≤ maxLen := by
      intro i hi
      obtain ⟨cs', hc, ht⟩ := hel i (by omega)
      rw [headerCells] at hc
      obtain ⟨r, rfl, z⟩ := hdr_of ht
      exact ⟨r, hc, z⟩
    obtain ⟨f, hf⟩ : ∃ f : Nat → Hdr, ∀ i, i < len → w.cells? base (A.add (i * 2)) 2 = some [.string (f i).name, .string (f i).value] ∧ (f i).name.size ≤ maxLen ∧ (f i).value.size ≤ maxLen := by
      classical
      refine ⟨fun i => if hi : i < len then (hrec i hi).choose else ⟨.empty, .empty⟩, fun i hi => ?_⟩
      simp only [dif_pos hi]
      exact (hrec i hi).choose_spec
    refine ⟨(List.range len).map f, by simp, by omega, ?_, ?_⟩
    · intro i r hr
      rw [List.getElem?_map] at hr
      obtain ⟨j, hj, rfl⟩ := Option.map_eq_some_iff.1 hr
      obtain ⟨hlt, rfl⟩ := List.getElem?_eq_some_iff.1 hj
      simp at hlt
      simpa using (hf i hlt).2
    · by_cases h0 : len = 0
      · subst h0; exact .inl rfl
      · obtain ⟨b, off, spot⟩ := A
        have cells : ∀ i, i < len → ∀ j, j < 2 → w.cell? ((⟨b, off, spot⟩ : Addr).add (i * 2 + j)) = ([.string (f i).name, .string (f i).value] : List Value)[j]? := by
          intro i hi j hj
          have c := (World.cells?_some (hf i hi).1).2.2 j hj
          rw [add_add] at c
          exact c
        have hs : spot = none := by
          have c := cells 0 (by omega) 0 (by omega)
          simp only [Nat.zero_mul, Nat.add_zero, List.getElem?_cons_zero] at c
          simpa [Addr.add] using World.cell?_spot c
        subst hs
        have hadd : ∀ i, (⟨b, off, none⟩ : Addr).add i = ⟨b, off + i, none⟩ := fun i => by unfold Addr.add; split <;> simp_all
        refine .inr ⟨b, off, rfl, fun i r hr => ?_⟩
        rw [List.getElem?_map] at hr
        obtain ⟨j, hj, rfl⟩ := Option.map_eq_some_iff.1 hr
        obtain ⟨hlt, rfl⟩ := List.getElem?_eq_some_iff.1 hj
        simp only [List.length_range] at hlt
        simp only [List.getElem_range]
        have q0 := cells i hlt 0 (by omega)
        have q1 := cells i hlt 1 (by omega)
        rw [hadd] at q0 q1
        exact ⟨by simpa using q0, by simpa [Nat.add_assoc] using q1⟩
end Go.Proofs.YtojcjpdgjohldaaGreatDoor
/-
  A request and a response that came in by value, opened.
-/
namespace Go.Proofs.YtojcjpdgjohldaaGreatDoor
open Go.ChangeShapes Go.WideShapes Go.ChangeAt Go.RowKit Go.Deep
theorem requestCells : Tryz.prog.cellsOf 56 = 4 := by kernel_rfl
theorem headsOne : Tryz.prog.cellsOf 54 = 1 := by kernel_rfl
theorem slice_cs {H : Type} {enc : TypeId × Value → H} {w : World} {base : Nat} {spare : Nat → Bool} {held : Bool} {fuel : Nat} {cs : List Value} {t e : TypeId} {x : DataW H × List MemPlace}
    (hu : Tryz.prog.underlying t = some (.slice e)) (h : DataW.trod enc Tryz.prog w base spare held fuel t cs = some x) : ∃ a len cap, cs = [.slice a len cap] := by
  rcases open_slice hu h with ⟨hcs, _⟩ | ⟨A, len', cap', m, n, D, Pl, hcs, _⟩
  · exact ⟨_, _, _, hcs⟩
  · exact ⟨_, _, _, hcs⟩
set_option maxRecDepth 100000 in
theorem open_request {H : Type} {enc : TypeId × Value → H} {w : World} {r : Reach} {b0 base : Nat} {spare : Nat → Bool} {held : Bool} {v : Value} {d : DataW H} {p : List MemPlace}
    (hv : Value.okWide Tryz.prog w r b0 56 v) (h : DataW.Trod enc Tryz.prog w base spare held 56 v d p) :
    ∃ (m h p : ByteArray) (a : Option Addr) (cap : Nat) (l : List Hdr), v = .agg #[.string m, .string h, .string p, .slice a l.length cap] ∧ m.size ≤ maxLen ∧ h.size ≤ maxLen ∧ p.size ≤ maxLen ∧ l.length ≤ maxLen ∧ SmallHdrs l ∧ (l = [] ∨ ∃ b off, a = some ⟨b, off, none⟩ ∧ HeadsAt w b off l) := by
  obtain ⟨cs, rfl, hsz⟩ := okWide_struct Tryz.underlying56 hv
  obtain ⟨fuel, hf0⟩ := h
  obtain ⟨xs, n, _, _, hl, hlen, hf⟩ := DataW.trod_struct Tryz.underlying56 hf0
  match xs, hlen with
  | [y0, y1, y2, y3], _ =>
    have h0 : DataW.trod enc Tryz.prog w base spare held n 9 (((Value.agg cs).cells.toList.drop 0).take (Tryz.prog.cellsOf 9)) = some y0 := hf 0 _ rfl
    have h1 : DataW.trod enc Tryz.prog w base spare held n 9 (((Value.agg cs).cells.toList.drop 1).take (Tryz.prog.cellsOf 9)) = some y1 := hf 1 _ rfl
    have h2 : DataW.trod enc Tryz.prog w base spare held n 9 (((Value.agg cs).cells.toList.drop 2).take (Tryz.prog.cellsOf 9)) = some y2 := hf 2 _ rfl
    have h3 : DataW.trod enc Tryz.prog w base spare held n 54 (((Value.agg cs).cells.toList.drop 3).take (Tryz.prog.cellsOf 54)) = some y3 := hf 3 _ rfl
    rw [hOneS] at h0 h1 h2
    rw [headsOne] at h3
    obtain ⟨s0, e0, _, z0⟩ := DataW.trod_string Tryz.underlying9 h0
    obtain ⟨s1, e1, _, z1⟩ := DataW.trod_string Tryz.underlying9 h1
    obtain ⟨s2, e2, _, z2⟩ := DataW.trod_string Tryz.underlying9 h2
    obtain ⟨a, len, cap, e3⟩ := slice_cs Tryz.underlying54 h3
    rw [e3] at h3
    obtain ⟨l, rfl, m3, s3, o3⟩ := open_headers h3
    refine ⟨s0, s1, s2, a, cap, l, ?_, z0, z1, z2, m3, s3, o3⟩
    have e : cs.toList = [.string s0, .string s1, .string s2, .slice a l.length cap] := by
      simp only [Value.cells] at e0 e1 e2 e3 hl
      rw [requestCells] at hl
      match hc : cs.toList, hl with
      | [c0, c1, c2, c3], _ =>
        rw [hc] at e0 e1 e2 e3
        simp only [List.drop_zero, List.take_succ_cons, List.take_zero, List.drop_succ_cons, List.cons.injEq, and_true] at e0 e1 e2 e3
        rw [e0, e1, e2, e3]
    congr 1
    exact Array.toList_inj.1 e
end Go.Proofs.YtojcjpdgjohldaaGreatDoor
/-
  A list of texts that came in, opened.
-/
namespace Go.Proofs.YtojcjpdgjohldaaGreatDoor
open Go.ChangeShapes Go.WideShapes Go.ChangeAt Go.RowKit Go.Deep
theorem textOne : Tryz.prog.cellsOf 9 = 1 := by kernel_rfl
theorem open_texts {H : Type} {enc : TypeId × Value → H} {w : World} {base : Nat} {spare : Nat → Bool} {held : Bool} {fuel : Nat} {a : Option Addr} {len cap : Nat} {x : DataW H × List MemPlace}
    (h : DataW.trod enc Tryz.prog w base spare held fuel 46 [.slice a len cap] = some x) : ∃ l : List ByteArray, l.length = len ∧ len ≤ maxLen ∧ (∀ x ∈ l, x.size ≤ maxLen) ∧ TIn w a l := by
  rcases open_slice Tryz.underlying46 h with ⟨hcs, _⟩ | ⟨A, len', cap', m, n, D, Pl, hcs, _, hl, hm, hmm, _, hel⟩
  · simp only [List.cons.injEq, Value.slice.injEq, and_true] at hcs
    obtain ⟨_, rfl, _⟩ := hcs
    exact ⟨[], rfl, by unfold maxLen; omega, (fun x hx => by cases hx), .inl rfl⟩
  · simp only [List.cons.injEq, Value.slice.injEq, and_true] at hcs
    obtain ⟨rfl, rfl, rfl⟩ := hcs
    have hlm : len ≤ m := by rw [hmm]; split <;> omega
    have hrec : ∀ i, i < len → ∃ r : ByteArray, w.cells? base (A.add (i * 1)) 1 = some [.string r] ∧ r.size ≤ maxLen := by
      intro i hi
      obtain ⟨cs', hc, ht⟩ := hel i (by omega)
      rw [textOne] at hc
      obtain ⟨r, e, _, z⟩ := DataW.trod_string Tryz.underlying9 ht
      exact ⟨r, by rw [hc, e], z⟩
    obtain ⟨f, hf⟩ : ∃ f : Nat → ByteArray, ∀ i, i < len → w.cells? base (A.add (i * 1)) 1 = some [.string (f i)] ∧ (f i).size ≤ maxLen := by
      classical
      refine ⟨fun i => if hi : i < len then (hrec i hi).choose else .empty, fun i hi => ?_⟩
      simp only [dif_pos hi]
      exact (hrec i hi).choose_spec
    refine ⟨(List.range len).map f, by simp, by omega, ?_, ?_⟩
    · intro x hx
      obtain ⟨i, hi, rfl⟩ := List.mem_map.1 hx
      exact (hf i (by simpa using hi)).2
    · by_cases h0 : len = 0
      · subst h0; exact .inl rfl
      · obtain ⟨b, off, spot⟩ := A
        have cells : ∀ i, i < len → w.cell? ((⟨b, off, spot⟩ : Addr).add i) = some (.string (f i)) := by
          intro i hi
          have c := (World.cells?_some (hf i hi).1).2.2 0 (by omega)
          rw [add_add] at c
          simpa using c
        have hs : spot = none := by
          have c := cells 0 (by omega)
          simpa [Addr.add] using World.cell?_spot c
        subst hs
        have hadd : ∀ i, (⟨b, off, none⟩ : Addr).add i = ⟨b, off + i, none⟩ := fun i => by unfold Addr.add; split <;> simp_all
        refine .inr ⟨b, off, rfl, fun i r hr => ?_⟩
        rw [List.getElem?_map] at hr
        obtain ⟨j, hj, rfl⟩ := Option.map_eq_some_iff.1 hr
        obtain ⟨hlt, rfl⟩ := List.getElem?_eq_some_iff.1 hj
        simp only [List.length_range] at hlt
        simp only [List.getElem_range]
        have q0 := cells i hlt
        rw [hadd] at q0
        exact q0
end Go.Proofs.YtojcjpdgjohldaaGreatDoor
/-
  As many variables are read as are named.
-/
namespace Go.Proofs.YtojcjpdgjohldaaGreatDoor
theorem trodVars_len {H : Type} {enc : TypeId × Value → H} {P : Program} {W : World} {sp : Nat → Bool} : ∀ {ns : List String} {gs : List (DataW H)} {ps : List MemPlace}, DataW.TrodVars enc P W sp ns gs ps → gs.length = ns.length
  | [], [], _, _ => rfl
  | [], _ :: _, _, h => h.elim
  | _ :: _, [], _, h => h.elim
  | n :: ns, d :: ds, ps, h => by
    obtain ⟨g, t, cs, fuel, p, q, h1, h2, h3, h4, hs, e⟩ := h
    simp [trodVars_len hs]
end Go.Proofs.YtojcjpdgjohldaaGreatDoor
