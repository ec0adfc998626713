/-
  Texts of one claim, one behind the other.
-/
import Derived.ChangeArms
import Derived.Deep.RegionHeld3
import Derived.Shelf.Sort.Plain
import Derived.Shelf.Strings.FieldsFuncAny
import Derived.Sort.OwnSorted
import Derived.Test.YtojcjpdgjohldaaGreatDoorKoB
/-
  What queryPieces answers.
-/
namespace Go.Proofs.YtojcjpdgjohldaaGreatDoor
open Go.ChangeShapes Go.WideShapes Go.ChangeAt Go.RowKit
set_option maxHeartbeats 1000000 in
theorem amp_any (x : Nat) (w : World) : Calls Tryz.prog 141 #[.int .i32 (x : Int)] w fun e w' => e = .returned (.bool (amp x)) ∧ w' = w := by
  have HE : Hid (amp x = ((x : Int) == 38)) := by
    show _ = _
    unfold amp
    by_cases h : x = 38
    · subst h; rfl
    · rw [beq_eq_false_iff_ne.2 h, beq_eq_false_iff_ne.2 (by omega)]
  go_enter Tryz.func141, Tryz.ntmps141
  go_wp2
  go_ret
  exact ⟨by rw [HE.out]; rfl, rfl⟩
def qParts (s : ByteArray) : List (List UInt8) := fullP (cutG 38 [] s.data.toList)
theorem qParts_len (s : ByteArray) : (qParts s).length ≤ s.size + 1 := by
  have h1 := fullP_len (cutG 38 [] s.data.toList)
  have h2 := cutG_len 38 s.data.toList []
  rw [hsize_list] at h2
  unfold qParts
  omega
theorem fields_any (s : ByteArray) (w : World) (hs : s.size ≤ 6000) (ha : ∀ (i : Nat) (h : i < s.size), s[i].toNat < 128) :
    Calls Tryz.prog 140 #[.string s, .func (.func 141) #[] #[]] w fun e w' => ∃ A, e = .returned (.slice (some ⟨A, 0, none⟩) (qParts s).length (qParts s).length) ∧ OwnS w' w.heap.size (.slice (some ⟨A, 0, none⟩) (qParts s).length (qParts s).length) ((qParts s).map hmk) ∧ Below w.heap.size w w' := by
  have hp : PredAtRunes Tryz.prog 141 #[] amp w := fun W x _ _ => (amp_any x W).mono fun e w' ⟨h1, h2⟩ => ⟨h1, 0, by rw [h2]; rfl⟩
  have h := Any.strings_FieldsFunc_runes Tryz.lays229 141 #[] (enters_of Tryz.func141 (by kernel_rfl) rfl) amp s w (by omega) hp (by kernel_rfl) (by kernel_rfl)
  have e1 : Lib.goFieldsP amp s = (qParts s).map hmk := fields_amp s ha
  rw [e1, List.length_map] at h
  refine h.mono ?_
  rintro e w' ⟨A, h1, _, h3, h4⟩
  refine ⟨A, h1, ?_, h4⟩
  unfold OwnS textsW
  rw [List.length_map]
  exact h3
theorem textsW_enc (l : List (List UInt8)) : textsW (l.map hmk) = l.map encStr := by
  unfold textsW
  rw [List.map_map]
  rfl
theorem sort_own (P : List (List UInt8)) (w w1 : World) (A : Nat) (hP : P.length ≤ 6001) (ho : OwnS w1 w.heap.size (.slice (some ⟨A, 0, none⟩) P.length P.length) (P.map hmk)) (hb : Below w.heap.size w w1) :
    Calls Tryz.prog 142 #[.slice (some ⟨A, 0, none⟩) P.length P.length] w1 fun e w' => e = .returned (.tuple #[]) ∧ OwnS w' w.heap.size (.slice (some ⟨A, 0, none⟩) P.length P.length) ((sortS P).map hmk) ∧ Below w.heap.size w w' := by
  obtain ⟨h0, h1 | ⟨g, c, cur, e, hg, hh, hc1, hc2, hc3, hc4⟩⟩ := ho
  · exact absurd h1.1 (by simp)
  · simp only [Value.slice.injEq, Option.some.injEq, Addr.mk.injEq, and_true] at e
    obtain ⟨rfl, _, rfl⟩ := e
    rw [textsW_enc, List.length_map] at hc4
    rw [List.length_map] at hc1
    have hlt := (Array.getElem?_eq_some_iff.1 hh).1
    refine (Any.slices_Sort_string Tryz.lays190 A 0 P.length P w1 (holds_of_block hh (by simpa using hc4)) hlt (by omega)).mono ?_
    rintro e w2 ⟨rfl, n, os, rfl⟩
    rw [merge_eq]
    refine ⟨rfl, ?_, hb.grown (grownBy_sorted _) hb.size (fun j hj => by cases hj; exact hg)⟩
    have e2 := ownsRow_sorted (n := n) (os := os) (sortS_len P) hg hh hc1 hc2 (by simpa using hc3)
    unfold OwnS
    rw [textsW_enc, List.length_map, sortS_len]
    exact e2
set_option maxRecDepth 100000 in
set_option maxHeartbeats 2000000 in
theorem queryPieces_any (s : ByteArray) (w : World) (hs : s.size ≤ 6000) (ha : ∀ (i : Nat) (h : i < s.size), s[i].toNat < 128) :
    Calls Tryz.prog 96 #[.string s] w fun e w' => CutRes (sortS (qParts s)) w.heap.size e w' ∧ Below w.heap.size w w' := by
  have C := fields_any s w hs ha
  have hQ := qParts_len s
  generalize qParts s = P at *
  go_enter Tryz.func96, Tryz.ntmps96
  go_wp2_with fail
  refine C.mono ?_
  rintro e w1 ⟨A, rfl, ho, hb⟩
  have C2 := sort_own P w w1 A (by omega) ho hb
  clear ho hb C
  go_wp2_with fail
  refine C2.mono ?_
  rintro e w2 ⟨rfl, ho2, hb2⟩
  have HO : Hid (OwnS w2 w.heap.size (.slice (some ⟨A, 0, none⟩) P.length P.length) ((sortS P).map hmk)) := ho2
  have HB2 : Hid (Below w.heap.size w w2) := hb2
  clear C2 ho2 hb2
  go_wp2_with fail
  go_ret
  exact ⟨⟨_, rfl, HO.out⟩, HB2.out⟩
end Go.Proofs.YtojcjpdgjohldaaGreatDoor
/-
  What KeyOf and its model answer.
-/
namespace Go.Proofs.YtojcjpdgjohldaaGreatDoor
open Go.ChangeShapes Go.WideShapes Go.ChangeAt Go.RowKit
def keyR (m h p : ByteArray) (l : List Hdr) : ByteArray := if reqC m h p l = 0 then hmk (keyT h p) else ⟨#[]⟩
theorem keyR_ok {m h p : ByteArray} {l : List Hdr} (c : reqC m h p l = 0) : keyR m h p l = hmk (keyT h p) := by rw [keyR, if_pos c]
theorem keyR_bad {m h p : ByteArray} {l : List Hdr} (c : ¬ reqC m h p l = 0) : keyR m h p l = ⟨#[]⟩ := by rw [keyR, if_neg c]
set_option maxRecDepth 100000 in
set_option maxHeartbeats 4000000 in
theorem specKey_any (w : World) (m h p : ByteArray) (a : Option Addr) (cap : Nat) (l : List Hdr) (hl : l.length ≤ 1048576) (hi : HdsIn w a l) :
    Calls Tryz.prog 49 #[.agg #[.string m, .string h, .string p, .slice a l.length cap]] w fun e w' => e = .returned (.agg #[.int .i64 (reqC m h p l), .string (keyR m h p l)]) ∧ Below w.heap.size w w' := by
  obtain ⟨W, hW⟩ : ∃ W, W = (w.alloc (.cells #[.string m, .string h, .string p, .slice a l.length cap] 26)).alloc (.cells #[.int .i64 0, .string ⟨#[]⟩] 50) := ⟨_, rfl⟩
  have HW : Hid (W = (w.alloc (.cells #[.string m, .string h, .string p, .slice a l.length cap] 26)).alloc (.cells #[.int .i64 0, .string ⟨#[]⟩] 50)) := hW
  have bW : Below w.heap.size w W := by rw [hW]; exact ((Below.refl _ _).alloc (Nat.le_refl _) _).alloc (by simp) _
  have f0 : Four W w.heap.size (.string m) (.string h) (.string p) (.slice a l.length cap) := by rw [hW]; exact (Four.new _ _ _ _ _ _).keep ((Below.refl _ _).alloc (Nat.le_refl _) _)
  have t0 : Two W (w.heap.size + 1) (.int .i64 0) (.string ⟨#[]⟩) := by
    rw [hW]
    have := Two.new (w.alloc (.cells #[.string m, .string h, .string p, .slice a l.length cap] 26)) (.int .i64 0) (.string ⟨#[]⟩) 50
    simpa using this
  have C := specReq_any W m h p a cap l hl (hi.keep bW)
  have K0 : Hid (Below w.heap.size w W ∧ Four W w.heap.size (.string m) (.string h) (.string p) (.slice a l.length cap) ∧ Two W (w.heap.size + 1) (.int .i64 0) (.string ⟨#[]⟩)) := ⟨bW, f0, t0⟩
  have HCC : Hid ((reqC m h p l = 0 → keyR m h p l = hmk (keyT h p) ∧ h.size ≤ 60 ∧ p.size ≤ 100) ∧ (¬ reqC m h p l = 0 → keyR m h p l = ⟨#[]⟩)) := ⟨fun c0 => ⟨keyR_ok c0, (method_size (reqC_zero c0).1).2⟩, keyR_bad⟩
  clear hW bW f0 t0 hi
  generalize keyR m h p l = kr at *
  generalize reqC m h p l = c at *
  have hc3 := K0.out.2.1.c3
  rw [HW.out] at hc3
  go_enter Tryz.func49, Tryz.ntmps49
  go_wp2_with fail
  rw [← HW.out]
  refine C.mono ?_
  rintro e w1 ⟨rfl, hb1⟩
  have K1 : Hid (Below w.heap.size w w1 ∧ Four w1 w.heap.size (.string m) (.string h) (.string p) (.slice a l.length cap) ∧ Two w1 (w.heap.size + 1) (.int .i64 0) (.string ⟨#[]⟩)) := ⟨K0.out.1.trans (hb1.mono K0.out.1.size), K0.out.2.1.keep hb1, K0.out.2.2.keep hb1⟩
  clear C hb1 K0 HW hc3
  by_cases c0 : c = 0
  · subst c0
    obtain ⟨z1, z2, z3⟩ := HCC.out.1 rfl
    have C5 := l5Key_any w1 w.heap.size m h p _ K1.out.2.1 z2 z3
    have HR : Hid (kr = hmk (keyT h p)) := z1
    clear z1 HCC
    generalize hmk (keyT h p) = kt at *
    go_wp2_with fail
    refine C5.mono ?_
    rintro e w2 ⟨rfl, hb2⟩
    have K2 : Hid (Below w.heap.size w w2 ∧ Two w2 (w.heap.size + 1) (.int .i64 0) (.string ⟨#[]⟩)) := ⟨K1.out.1.trans (hb2.mono K1.out.1.size), K1.out.2.2.keep hb2⟩
    clear C5 hb2 K1
    obtain ⟨r0, r1, rf, _⟩ := K2.out.2
    have rf0 := rf 0
    have rf1 := rf 1
    clear rf
    go_wp2_with fail
    have T2 := two_put (v0 := .int .i64 0) (v1 := .string kt) K2.out.2
    exact bodyPost_ret (v := .agg #[.int .i64 0, .string kt]) (by simp [results, Tryz.results49, go_sem, T2.c0, T2.c1]) rfl ⟨by rw [HR.out], (K2.out.1.setCell (by simp) _).setCell (by simp) _⟩
  · have HR : Hid (kr = ⟨#[]⟩) := HCC.out.2 c0
    obtain ⟨r0, r1, rf, _⟩ := K1.out.2.2
    have rf0 := rf 0
    have rf1 := rf 1
    clear rf HCC
    go_wp2_with fail
    have T2 := two_put (v0 := .int .i64 c) (v1 := .string ⟨#[]⟩) K1.out.2.2
    exact bodyPost_ret (v := .agg #[.int .i64 c, .string ⟨#[]⟩]) (by simp [results, Tryz.results49, go_sem, T2.c0, T2.c1]) rfl ⟨by rw [HR.out], (K1.out.1.setCell (by simp) _).setCell (by simp) _⟩
/-! ### KeyOf itself -/
theorem qAt_pat : ∀ l : List UInt8, qAt l = patAt [63] l
  | [] => rfl
  | x :: r => by
    rw [qAt, patAt, pre_one, qAt_pat r]
    by_cases h : x = 63
    · simp [h]
    · simp [h]; try omega
theorem kcut_any (p : ByteArray) (w : World) (hm : MaxIs w) (hp : p.size ≤ 6000) :
    Calls Tryz.prog 95 #[.string p, .string ⟨#[63]⟩] w fun e w' => e = .returned (.tuple #[.string (hmk (p.data.toList.take (qAt p.data.toList))), .string (hmk (p.data.toList.drop (qAt p.data.toList + 1))), .bool (decide (qAt p.data.toList < p.data.toList.length))]) ∧ Below w.heap.size w w' := by
  obtain ⟨m, hm⟩ := hm
  have h := Any.strings_Cut Tryz.laysM145.ton145 p ⟨#[63]⟩ m w (by omega) hm
  rw [show (⟨#[63]⟩ : ByteArray).data.toList = [63] from rfl] at h
  rw [qAt_pat]
  by_cases c : patAt [63] p.data.toList < p.data.toList.length
  · rw [cut_pat (by simp) c] at h
    rw [decide_eq_true c]
    exact h.mono fun e w' ⟨h1, n, h2⟩ => ⟨h1, h2 ▸ below_drewN w n⟩
  · rw [cut_pat_no (by simp) c] at h
    rw [decide_eq_false c, List.take_of_length_le (by omega), List.drop_of_length_le (by omega)]
    exact h.mono fun e w' ⟨h1, n, h2⟩ => ⟨h1, h2 ▸ below_drewN w n⟩
theorem join_amp (w : World) (base : Nat) (v : Value) (xs : List ByteArray) (h : OwnS w base v xs) (hN : xs.length ≤ 1000000) (hlen : (Lib.join (xs.map (·.data.toList)) [38]).length ≤ 1000000) :
    Calls Tryz.prog 97 #[v, .string ⟨#[38]⟩] w fun e w' => e = .returned (.string ⟨(Lib.join (xs.map (·.data.toList)) [38]).toArray⟩) ∧ Below w.heap.size w w' := by
  have h0 := h
  obtain ⟨_, h1 | ⟨g, c, cur, rfl, _, hh, hcap, _⟩⟩ := h
  · have : xs = [] := List.eq_nil_of_length_eq_zero h1.2
    subst this
    rw [h1.1]
    exact (Any.strings_Join_none Tryz.lays156 joinExtra none 0 ⟨#[38]⟩ w).mono fun e w' ⟨he, hw⟩ => ⟨he, hw ▸ Below.refl _ _⟩
  · refine Any.strings_Join Tryz.lays156 joinExtra g 0 c xs ⟨#[38]⟩ w ?_ (Array.getElem?_eq_some_iff.1 hh).1 (by omega) hcap (by simpa using (by omega : (Lib.join (xs.map (·.data.toList)) [38]).length ≤ 140737488355328))
    intro j x hj
    have hj2 := (List.getElem?_eq_some_iff.1 hj).1
    have := World.ownsRow.cellAt h0 j (by omega)
    rw [show 0 + j = j from by omega]
    rw [this]
    simp [textsW, hj]
theorem hmk_back (S : List (List UInt8)) : (S.map hmk).map (·.data.toList) = S := by
  rw [List.map_map]
  have : ((fun x : ByteArray => x.data.toList) ∘ hmk) = id := by funext x; simp [hmk]
  rw [this, List.map_id]
theorem path_ascii {p : ByteArray} (h : pathS p = true) (k : Nat) : ∀ (i : Nat) (hi : i < (hmk (p.data.toList.drop k)).size), (hmk (p.data.toList.drop k))[i].toNat < 128 := by
  intro i hi
  have hm : (hmk (p.data.toList.drop k))[i] ∈ p.data.toList := by
    have h1 : (hmk (p.data.toList.drop k))[i] ∈ (hmk (p.data.toList.drop k)).data.toList := by
      show (hmk (p.data.toList.drop k)).data[i] ∈ _
      exact Array.mem_toList_iff.2 (Array.getElem_mem _)
    rw [hmk_list] at h1
    exact List.mem_of_mem_drop h1
  have h2 : allP pathI p.data.toList = true := by
    simp only [pathS, Bool.and_eq_true] at h
    exact h.2
  have h3 := allP_mem h2 _ hm
  by_cases c : (hmk (p.data.toList.drop k))[i].toNat < 128
  · exact c
  · rw [pathI_big _ (by omega)] at h3; cases h3
set_option maxRecDepth 100000 in
set_option maxHeartbeats 8000000 in
theorem implKey_any (E : Errs) (w : World) (m h p : ByteArray) (a : Option Addr) (cap : Nat) (l : List Hdr) (hl : l.length ≤ 1048576) (hcap : l.length ≤ cap) (hps : p.size ≤ 1048576) (hset : SetIs w) (hE : ErrsIs w E) (hmx : MaxIs w) (hi : HdsIn w a l) :
    Calls Tryz.prog 33 #[.agg #[.string m, .string h, .string p, .slice a l.length cap]] w fun e w' => e = .returned (.agg #[.int .i64 (reqC m h p l), .string (keyR m h p l)]) ∧ Below w.heap.size w w' := by
  obtain ⟨W, hW⟩ : ∃ W, W = (w.alloc (.cells #[.string m, .string h, .string p, .slice a l.length cap] 26)).alloc (.cells #[.int .i64 0, .string ⟨#[]⟩] 50) := ⟨_, rfl⟩
  have HW : Hid (W = (w.alloc (.cells #[.string m, .string h, .string p, .slice a l.length cap] 26)).alloc (.cells #[.int .i64 0, .string ⟨#[]⟩] 50)) := hW
  have bW : Below w.heap.size w W := by rw [hW]; exact ((Below.refl _ _).alloc (Nat.le_refl _) _).alloc (by simp) _
  have f0 : Four W w.heap.size (.string m) (.string h) (.string p) (.slice a l.length cap) := by rw [hW]; exact (Four.new _ _ _ _ _ _).keep ((Below.refl _ _).alloc (Nat.le_refl _) _)
  have t0 : Two W (w.heap.size + 1) (.int .i64 0) (.string ⟨#[]⟩) := by
    rw [hW]
    have := Two.new (w.alloc (.cells #[.string m, .string h, .string p, .slice a l.length cap] 26)) (.int .i64 0) (.string ⟨#[]⟩) 50
    simpa using this
  have C := implReq_any E W m h p a cap l hl hcap hps (hset.below bW) (hE.below bW) (hi.keep bW)
  have K0 : Hid (Below w.heap.size w W ∧ Four W w.heap.size (.string m) (.string h) (.string p) (.slice a l.length cap) ∧ Two W (w.heap.size + 1) (.int .i64 0) (.string ⟨#[]⟩)) := ⟨bW, f0, t0⟩
  have HM : Hid (∀ X, Below w.heap.size w X → MaxIs X) := fun X hb => hmx.below hb
  have HCC : Hid ((reqC m h p l = 0 → keyR m h p l = hmk (keyT h p) ∧ lineS m h p = true ∧ h.size ≤ 60 ∧ p.size ≤ 100) ∧ (¬ reqC m h p l = 0 → keyR m h p l = ⟨#[]⟩)) := ⟨fun c0 => ⟨keyR_ok c0, (reqC_zero c0).1, (method_size (reqC_zero c0).1).2⟩, keyR_bad⟩
  clear hW bW f0 t0 hi hset hE hmx
  generalize keyR m h p l = kr at *
  generalize reqC m h p l = c at *
  have hc3 := K0.out.2.1.c3
  rw [HW.out] at hc3
  go_enter Tryz.func33, Tryz.ntmps33
  go_wp2_with fail
  rw [← HW.out]
  refine C.mono ?_
  rintro e w1 ⟨rfl, hb1⟩
  have K1 : Hid (Below w.heap.size w w1 ∧ Four w1 w.heap.size (.string m) (.string h) (.string p) (.slice a l.length cap) ∧ Two w1 (w.heap.size + 1) (.int .i64 0) (.string ⟨#[]⟩)) := ⟨K0.out.1.trans (hb1.mono K0.out.1.size), K0.out.2.1.keep hb1, K0.out.2.2.keep hb1⟩
  clear C hb1 K0 HW hc3
  by_cases c0 : c = 0
  · subst c0
    obtain ⟨z1, y1, z2, z3⟩ := HCC.out.1 rfl
    have C5 := kcut_any p w1 (HM.out w1 K1.out.1) (by omega)
    have HPA := path_ascii (lineS_true y1).2.2 (qAt p.data.toList + 1)
    obtain ⟨S, hS⟩ : ∃ S, S = sortS (qParts (hmk (p.data.toList.drop (qAt p.data.toList + 1)))) := ⟨_, rfl⟩
    have hSk : S = keyParts p.data.toList := by rw [hS]; unfold qParts keyParts; rw [hmk_list]
    have hSl : S.length ≤ 101 := by rw [hSk]; have := keyParts_len p.data.toList; rw [hsize_list] at this; omega
    have hSs : sumL S ≤ 100 := by rw [hSk]; have := keyParts_sum p.data.toList; rw [hsize_list] at this; omega
    have HQ : Hid (∀ X, Calls Tryz.prog 96 #[.string (hmk (p.data.toList.drop (qAt p.data.toList + 1)))] X fun e w' => CutRes S X.heap.size e w' ∧ Below X.heap.size X w') := fun X => by
      rw [hS]
      exact queryPieces_any _ X (by rw [hmk_size, List.length_drop, hsize_list]; omega) HPA
    have HL : Hid (∀ X, Calls Tryz.prog 34 #[.string h] X fun e w' => e = .returned (.agg #[.int .i64 0, .string (lowS h)]) ∧ Below X.heap.size X w') := fun X => implLower_any h X (by omega)
    obtain ⟨o0, ho0⟩ : ∃ o : ByteArray, o = lowS h ++ hmk (p.data.toList.take (qAt p.data.toList)) := ⟨_, rfl⟩
    have so0 : o0.size ≤ 160 := by rw [ho0, ByteArray.size_append, lowS_size, hmk_size, List.length_take, hsize_list]; omega
    have add0 : ∀ X, (Op.stringOp .add (lowS h) (hmk (p.data.toList.take (qAt p.data.toList)))).run Tryz.prog X = .ok (.string o0) X := fun X => by rw [ho0]; exact run_string_add_sum X _ _ (by rw [lowS_size, hmk_size, List.length_take, hsize_list]; omega)
    have HR : Hid (∀ t : ByteArray, t.data.toList = o0.data.toList ++ keyQ S → t = kr) := fun t ht => by
      rw [z1]
      refine hof_list ?_
      rw [ht, ho0, happ_list, hmk_list, keyT, hSk]
    clear ho0 hS hSk HPA y1 z1 HCC
    generalize lowS h = lw at *
    generalize hmk (p.data.toList.take (qAt p.data.toList)) = pt at *
    generalize hmk (p.data.toList.drop (qAt p.data.toList + 1)) = qy at *
    generalize decide (qAt p.data.toList < p.data.toList.length) = fb at *
    have hft := f_field_text
    obtain ⟨q0, q1, q2, q3, _, _⟩ := K1.out.2.1
    go_wp2_with fail
    refine C5.mono ?_
    rintro e w2 ⟨rfl, hb2⟩
    have K2 : Hid (Below w.heap.size w w2 ∧ Four w2 w.heap.size (.string m) (.string h) (.string p) (.slice a l.length cap) ∧ Two w2 (w.heap.size + 1) (.int .i64 0) (.string ⟨#[]⟩)) := ⟨K1.out.1.trans (hb2.mono K1.out.1.size), K1.out.2.1.keep hb2, K1.out.2.2.keep hb2⟩
    clear C5 hb2 K1 q0 q1 q2 q3
    have C6 := HL.out w2
    obtain ⟨q0, q1, q2, q3, _, _⟩ := K2.out.2.1
    go_wp2_with fail
    refine C6.mono ?_
    rintro e w3 ⟨rfl, hb3⟩
    have K3 : Hid (Below w.heap.size w w3 ∧ Two w3 (w.heap.size + 1) (.int .i64 0) (.string ⟨#[]⟩)) := ⟨K2.out.1.trans (hb3.mono K2.out.1.size), K2.out.2.2.keep hb3⟩
    clear C6 hb3 K2 q0 q1 q2 q3 HL
    have C7 := HQ.out w3
    go_wp2_with fail
    refine C7.mono ?_
    rintro e w4 ⟨⟨v, rfl, ho⟩, hb4⟩
    have K4 : Hid (Below w.heap.size w w4 ∧ Two w4 (w.heap.size + 1) (.int .i64 0) (.string ⟨#[]⟩)) := ⟨K3.out.1.trans (hb4.mono K3.out.1.size), K3.out.2.keep hb4⟩
    obtain ⟨a5, c5, rfl, _⟩ := ho.shape
    rw [List.length_map] at ho ⊢
    have HO : Hid (OwnS w4 w3.heap.size (.slice a5 S.length c5) (S.map hmk)) := ho
    clear C7 hb4 K3 HQ ho
    obtain ⟨r0, r1, rf, _⟩ := K4.out.2
    have rf0 := rf 0
    have rf1 := rf 1
    clear rf
    by_cases hn : S.length = 0
    · have HE : Hid (o0 = kr) := by
        refine HR.out o0 ?_
        have : S = [] := List.eq_nil_of_length_eq_zero hn
        rw [this, keyQ_nil, List.append_nil]
      have gn : ¬ (0 : Int) < S.length := by omega
      clear HR HO
      generalize S.length = n at *
      go_wp2_with fail
      have T2 := two_put (v0 := .int .i64 0) (v1 := .string o0) K4.out.2
      exact bodyPost_ret (v := .agg #[.int .i64 0, .string o0]) (by simp [results, Tryz.results33, go_sem, T2.c0, T2.c1]) rfl ⟨by rw [HE.out], (K4.out.1.setCell (by simp) _).setCell (by simp) _⟩
    · have gn : (0 : Int) < S.length := by omega
      have hjl : (Lib.join S [38]).length ≤ 1000 := by
        have := keyQ_len S
        rw [keyQ, if_neg (fun e => hn (by rw [e]; rfl)), List.length_cons] at this
        omega
      have C8 := join_amp w4 w3.heap.size _ _ HO.out (by rw [List.length_map]; omega) (by rw [hmk_back]; omega)
      rw [hmk_back] at C8
      obtain ⟨j, hj⟩ : ∃ j : ByteArray, j = ⟨(Lib.join S [38]).toArray⟩ := ⟨_, rfl⟩
      rw [← hj] at C8
      have sj : j.size ≤ 1000 := by rw [hj]; show (Lib.join S [38]).toArray.size ≤ 1000; rw [List.size_toArray]; exact hjl
      have lit1 : (⟨#[63]⟩ : ByteArray).size = 1 := rfl
      obtain ⟨x1, hx1⟩ : ∃ x : ByteArray, x = ⟨#[63]⟩ ++ j := ⟨_, rfl⟩
      have sx1 : x1.size = 1 + j.size := by rw [hx1, ByteArray.size_append, lit1]
      have add1 : ∀ X, (Op.stringOp .add ⟨#[63]⟩ j).run Tryz.prog X = .ok (.string x1) X := fun X => by rw [hx1]; exact run_string_add_sum X _ _ (by omega)
      obtain ⟨x2, hx2⟩ : ∃ x : ByteArray, x = o0 ++ x1 := ⟨_, rfl⟩
      have add2 : ∀ X, (Op.stringOp .add o0 x1).run Tryz.prog X = .ok (.string x2) X := fun X => by rw [hx2]; exact run_string_add_sum X _ _ (by omega)
      have HE : Hid (x2 = kr) := by
        refine HR.out x2 ?_
        rw [hx2, happ_list, hx1, happ_list, hj, keyQ, if_neg (fun e => hn (by rw [e]; rfl))]
        simp
      clear HR HO hx1 hx2 hj sx1 lit1 sj hjl hn hSs hSl
      generalize S.length = n at *
      go_wp2_with fail
      refine C8.mono ?_
      rintro e w5 ⟨rfl, hb5⟩
      have K5 : Hid (Below w.heap.size w w5 ∧ Two w5 (w.heap.size + 1) (.int .i64 0) (.string ⟨#[]⟩)) := ⟨K4.out.1.trans (hb5.mono K4.out.1.size), K4.out.2.keep hb5⟩
      clear C8 hb5 K4 r0 r1 rf0 rf1
      obtain ⟨r0, r1, rf, _⟩ := K5.out.2
      have rf0 := rf 0
      have rf1 := rf 1
      clear rf
      go_wp2_with fail
      have T2 := two_put (v0 := .int .i64 0) (v1 := .string x2) K5.out.2
      exact bodyPost_ret (v := .agg #[.int .i64 0, .string x2]) (by simp [results, Tryz.results33, go_sem, T2.c0, T2.c1]) rfl ⟨by rw [HE.out], (K5.out.1.setCell (by simp) _).setCell (by simp) _⟩
  · have HR : Hid (kr = ⟨#[]⟩) := HCC.out.2 c0
    obtain ⟨r0, r1, rf, _⟩ := K1.out.2.2
    have rf0 := rf 0
    have rf1 := rf 1
    clear rf HM HCC
    go_wp2_with fail
    have T2 := two_put (v0 := .int .i64 c) (v1 := .string ⟨#[]⟩) K1.out.2.2
    exact bodyPost_ret (v := .agg #[.int .i64 c, .string ⟨#[]⟩]) (by simp [results, Tryz.results33, go_sem, T2.c0, T2.c1]) rfl ⟨by rw [HR.out], (K1.out.1.setCell (by simp) _).setCell (by simp) _⟩
end Go.Proofs.YtojcjpdgjohldaaGreatDoor
/-
  Two text results that are alike.
-/
namespace Go.Proofs.YtojcjpdgjohldaaGreatDoor
open Go.ChangeShapes Go.WideShapes Go.ChangeAt Go.RowKit
set_option maxHeartbeats 400000 in
theorem eqText_same (c : Int) (v : ByteArray) (w : World) :
    Calls Tryz.prog 50 #[.agg #[.int .i64 c, .string v], .agg #[.int .i64 c, .string v]] w fun e w' => e = .returned (.bool true) ∧ Below w.heap.size w w' := by
  go_enter Tryz.func50, Tryz.ntmps50
  go_wp2
  go_ret
  exact ⟨rfl, ((Below.refl _ _).alloc (Nat.le_refl _) _).alloc (by simp) _⟩
end Go.Proofs.YtojcjpdgjohldaaGreatDoor
/-
  The law of KeyOf.
-/
namespace Go.Proofs.YtojcjpdgjohldaaGreatDoor
open Go.ChangeShapes Go.WideShapes Go.ChangeAt Go.RowKit
set_option maxRecDepth 100000 in
set_option maxHeartbeats 8000000 in
theorem lawKeyOf (E : Errs) (w : World) (m h p : ByteArray) (a : Option Addr) (cap : Nat) (l : List Hdr) (hset : SetIs w) (hE : ErrsIs w E) (hmx : MaxIs w) (z1 : m.size ≤ maxLen) (z2 : h.size ≤ maxLen) (z3 : p.size ≤ maxLen) (hl : l.length ≤ maxLen) (hz : SmallHdrs l) (hi : HdsIn w a l) :
    Calls Tryz.prog 8 #[.agg #[.string m, .string h, .string p, .slice a l.length cap]] w fun e w' => e = .returned (.bool true) ∧ Below w.heap.size w w' := by
  obtain ⟨W, hW⟩ : ∃ W, W = w.alloc (.cells #[.string m, .string h, .string p, .slice a l.length cap] 56) := ⟨_, rfl⟩
  have HW : Hid (W = w.alloc (.cells #[.string m, .string h, .string p, .slice a l.length cap] 56)) := hW
  have bW : Below w.heap.size w W := by rw [hW]; exact (Below.refl _ _).alloc (Nat.le_refl _) _
  have fW : Four W w.heap.size (.string m) (.string h) (.string p) (.slice a l.length cap) := by rw [hW]; exact Four.new _ _ _ _ _ _
  have K0 : Hid (Below w.heap.size w W ∧ Four W w.heap.size (.string m) (.string h) (.string p) (.slice a l.length cap)) := ⟨bW, fW⟩
  have HZ := szRequest_any W m h p a cap l z1 z2 z3 hl hz (hi.keep bW) 1048576 (by omega) (by omega)
  have HR : Hid (¬ szR 1048576 m h p l < 0 → m.size ≤ 1048576 ∧ h.size ≤ 1048576 ∧ p.size ≤ 1048576 ∧ l.length ≤ 1048576 ∧ szR 1048576 m h p l ≤ 1048576) := szR_room (by omega)
  have HI : Hid (∀ X, Below w.heap.size w X → HdsIn X a l) := fun X hb => hi.keep hb
  have HS : Hid (∀ X, Below w.heap.size w X → SetIs X ∧ MaxIs X) := fun X hb => ⟨hset.below hb, hmx.below hb⟩
  have HE0 : Hid (∀ X, Below w.heap.size w X → ErrsIs X E) := fun X hb => hE.below hb
  generalize szR 1048576 m h p l = z at *
  clear hW bW fW hi hset hE hz z1 z2 z3 hl hmx
  go_enter Tryz.func8, Tryz.ntmps8
  go_wp2_with fail
  rw [← HW.out]
  refine HZ.mono ?_
  rintro e w1 ⟨rfl, hb1⟩
  have K1 : Hid (Below w.heap.size w w1 ∧ Four w1 w.heap.size (.string m) (.string h) (.string p) (.slice a l.length cap)) := ⟨K0.out.1.trans (hb1.mono K0.out.1.size), K0.out.2.keep hb1⟩
  clear HZ HW hb1 K0
  by_cases cz : z < 0
  · have KB : Hid (Below w.heap.size w w1) := K1.out.1
    clear K1 HR HI HS HE0
    go_wp2_with fail
    go_ret
    exact ⟨rfl, KB.out⟩
  obtain ⟨y1, y2, y3, y4, y5⟩ := HR.out (by omega)
  have HT : Hid (∀ X, Below w.heap.size w X → Calls Tryz.prog 37 #[.agg #[.string m, .string h, .string p, .slice a l.length cap]] X fun e w' => e = .returned (.agg #[.string m, .string h, .string p, .slice (some ⟨X.heap.size + 3, 0, none⟩) l.length l.length]) ∧ QMine w' (X.heap.size + 3) l ∧ Below X.heap.size X w') := fun X hb => toRequest_any X m h p a cap l y4 (HI.out X hb)
  have HF : Hid (∀ X b, QMine X b l → Calls Tryz.prog 49 #[.agg #[.string m, .string h, .string p, .slice (some ⟨b, 0, none⟩) l.length l.length]] X fun e w' => e = .returned (.agg #[.int .i64 (reqC m h p l), .string (keyR m h p l)]) ∧ Below X.heap.size X w') := fun X b hq => specKey_any X m h p _ _ l y4 (.inr ⟨b, 0, rfl, hq.at0⟩)
  have HG : Hid (∀ X b, Below w.heap.size w X → QMine X b l → Calls Tryz.prog 33 #[.agg #[.string m, .string h, .string p, .slice (some ⟨b, 0, none⟩) l.length l.length]] X fun e w' => e = .returned (.agg #[.int .i64 (reqC m h p l), .string (keyR m h p l)]) ∧ Below X.heap.size X w') := fun X b hb hq => implKey_any E X m h p _ _ l y4 (Nat.le_refl _) y3 (HS.out X hb).1 (HE0.out X hb) (HS.out X hb).2 (.inr ⟨b, 0, rfl, hq.at0⟩)
  have HQ : Hid (∀ X b1 b2, QMine X b1 l → QMine X b2 l → Calls Tryz.prog 39 #[.agg #[.string m, .string h, .string p, .slice (some ⟨b1, 0, none⟩) l.length l.length], .agg #[.string m, .string h, .string p, .slice (some ⟨b2, 0, none⟩) l.length l.length]] X fun e w' => e = .returned (.bool true) ∧ Below X.heap.size X w') := fun X b1 b2 h1 h2 => eqRequest_same X m h p b1 b2 l y4 h1.at0 h2.at0
  clear HR HI HS HE0 y1 y2 y3 y5
  generalize l.length = n at *
  generalize reqC m h p l = c at *
  generalize keyR m h p l = kr at *
  have C1 := HT.out w1 K1.out.1
  obtain ⟨q0, q1, q2, q3, _, _⟩ := K1.out.2
  go_wp2_with fail
  refine C1.mono ?_
  rintro e w2 ⟨rfl, hm2, hb2⟩
  have K2 : Hid (Below w.heap.size w w2 ∧ Four w2 w.heap.size (.string m) (.string h) (.string p) (.slice a n cap)) := ⟨K1.out.1.trans (hb2.mono K1.out.1.size), K1.out.2.keep hb2⟩
  have C2 := HF.out w2 _ hm2
  clear K1 C1 q0 q1 q2 q3 hb2 hm2 HF
  go_wp2_with fail
  refine C2.mono ?_
  rintro e w3 ⟨rfl, hb3⟩
  obtain ⟨V3, hV3⟩ : ∃ V, V = w3.alloc (.cells #[.int .i64 c, .string kr] 50) := ⟨_, rfl⟩
  have HV3 : Hid (V3 = w3.alloc (.cells #[.int .i64 c, .string kr] 50)) := hV3
  have a3 : Below w3.heap.size w3 V3 := by rw [hV3]; exact (Below.refl _ _).alloc (Nat.le_refl _) _
  have t3 : Two V3 w3.heap.size (.int .i64 c) (.string kr) := by rw [hV3]; exact Two.new _ _ _ _
  have b3 := K2.out.1.trans (hb3.mono K2.out.1.size)
  have K3 : Hid (Below w.heap.size w V3 ∧ Four V3 w.heap.size (.string m) (.string h) (.string p) (.slice a n cap) ∧ Two V3 w3.heap.size (.int .i64 c) (.string kr)) := ⟨b3.trans (a3.mono b3.size), (K2.out.2.keep hb3).keep a3, t3⟩
  clear K2 C2 hb3 hV3 a3 t3 b3
  try clear w2
  try clear w1
  have C3 := HT.out V3 K3.out.1
  obtain ⟨q0, q1, q2, q3, _, _⟩ := K3.out.2.1
  rw [HV3.out] at q0 q1 q2 q3
  go_wp2_with fail
  rw [← HV3.out]
  refine C3.mono ?_
  rintro e w4 ⟨rfl, hm4, hb4⟩
  clear q0 q1 q2 q3
  obtain ⟨V, hV⟩ : ∃ V, V = w4.alloc (.cells #[.string m, .string h, .string p, .slice (some ⟨V3.heap.size + 3, 0, none⟩) n n] 26) := ⟨_, rfl⟩
  have HV : Hid (V = w4.alloc (.cells #[.string m, .string h, .string p, .slice (some ⟨V3.heap.size + 3, 0, none⟩) n n] 26)) := hV
  have aV : Below w4.heap.size w4 V := by rw [hV]; exact (Below.refl _ _).alloc (Nat.le_refl _) _
  have fV : Four V w4.heap.size (.string m) (.string h) (.string p) (.slice (some ⟨V3.heap.size + 3, 0, none⟩) n n) := by rw [hV]; exact Four.new _ _ _ _ _ _
  have b4 := K3.out.1.trans (hb4.mono K3.out.1.size)
  have K4 : Hid (Below w.heap.size w V ∧ Four V w.heap.size (.string m) (.string h) (.string p) (.slice a n cap) ∧ Four V w4.heap.size (.string m) (.string h) (.string p) (.slice (some ⟨V3.heap.size + 3, 0, none⟩) n n) ∧ QMine V (V3.heap.size + 3) l ∧ Two V w3.heap.size (.int .i64 c) (.string kr)) := ⟨b4.trans (aV.mono b4.size), (K3.out.2.1.keep hb4).keep aV, fV, hm4.keep aV, (K3.out.2.2.keep hb4).keep aV⟩
  clear K3 C3 hb4 hm4 hV aV fV b4 HV3
  have C4 := HG.out V _ K4.out.1 K4.out.2.2.2.1
  generalize w3.heap.size = br at *
  generalize V3.heap.size + 3 = bx at *
  try clear V3
  try clear w3
  go_wp2_with fail
  rw [← HV.out]
  refine C4.mono ?_
  rintro e w5 ⟨rfl, hb5⟩
  obtain ⟨V5, hV5⟩ : ∃ V, V = w5.alloc (.cells #[.int .i64 c, .string kr] 50) := ⟨_, rfl⟩
  have HV5 : Hid (V5 = w5.alloc (.cells #[.int .i64 c, .string kr] 50)) := hV5
  have a5 : Below w5.heap.size w5 V5 := by rw [hV5]; exact (Below.refl _ _).alloc (Nat.le_refl _) _
  have t5 : Two V5 w5.heap.size (.int .i64 c) (.string kr) := by rw [hV5]; exact Two.new _ _ _ _
  have b5 := K4.out.1.trans (hb5.mono K4.out.1.size)
  have K5 : Hid (Below w.heap.size w V5 ∧ Four V5 w.heap.size (.string m) (.string h) (.string p) (.slice a n cap) ∧ Four V5 w4.heap.size (.string m) (.string h) (.string p) (.slice (some ⟨bx, 0, none⟩) n n) ∧ QMine V5 bx l ∧ Two V5 br (.int .i64 c) (.string kr) ∧ Two V5 w5.heap.size (.int .i64 c) (.string kr)) := ⟨b5.trans (a5.mono b5.size), (K4.out.2.1.keep hb5).keep a5, (K4.out.2.2.1.keep hb5).keep a5, (K4.out.2.2.2.1.keep hb5).keep a5, (K4.out.2.2.2.2.keep hb5).keep a5, t5⟩
  clear K4 C4 hb5 HV HG hV5 a5 t5 b5
  try clear V
  generalize w4.heap.size = bl at *
  try clear w4
  have C5 := eqText_same c kr V5
  obtain ⟨d0, d1, _, _⟩ := K5.out.2.2.2.2.1
  obtain ⟨g0, g1, _, _⟩ := K5.out.2.2.2.2.2
  rw [HV5.out] at d0 d1 g0 g1
  go_wp2_with fail
  rw [← HV5.out]
  refine C5.mono ?_
  rintro e w6 ⟨rfl, hb6⟩
  have HK : Hid (∀ X, Below w6.heap.size w6 X → Below w.heap.size w X ∧ Four X w.heap.size (.string m) (.string h) (.string p) (.slice a n cap) ∧ Four X bl (.string m) (.string h) (.string p) (.slice (some ⟨bx, 0, none⟩) n n) ∧ QMine X bx l) := fun X hb => by
    have h6 := K5.out.1.trans (hb6.mono K5.out.1.size)
    exact ⟨h6.trans (hb.mono h6.size), (K5.out.2.1.keep hb6).keep hb, (K5.out.2.2.1.keep hb6).keep hb, (K5.out.2.2.2.1.keep hb6).keep hb⟩
  clear C5 d0 d1 g0 g1 hb6 K5 HV5
  try clear V5
  try clear w5
  have B0 : Hid (Below w6.heap.size w6 w6.drew) := (Below.refl _ _).drew
  have HKS : Hid (∀ X, Below w6.heap.size w6 X → (X.cell? ⟨w.heap.size, 0, none⟩ = some (.string m) ∧ X.cell? ⟨w.heap.size, 1, none⟩ = some (.string h) ∧ X.cell? ⟨w.heap.size, 2, none⟩ = some (.string p) ∧ X.cell? ⟨w.heap.size, 3, none⟩ = some (.slice a n cap)) ∧ X.cell? ⟨bl, 0, none⟩ = some (.string m) ∧ X.cell? ⟨bl, 1, none⟩ = some (.string h) ∧ X.cell? ⟨bl, 2, none⟩ = some (.string p) ∧ X.cell? ⟨bl, 3, none⟩ = some (.slice (some ⟨bx, 0, none⟩) n n)) := fun X hb => ⟨⟨(HK.out X hb).2.1.c0, (HK.out X hb).2.1.c1, (HK.out X hb).2.1.c2, (HK.out X hb).2.1.c3⟩, (HK.out X hb).2.2.1.c0, (HK.out X hb).2.2.1.c1, (HK.out X hb).2.2.1.c2, (HK.out X hb).2.2.1.c3⟩
  go_wp2_with fail
  go_region_held3 (fun X => (X.cell? ⟨w.heap.size, 0, none⟩ = some (.string m) ∧ X.cell? ⟨w.heap.size, 1, none⟩ = some (.string h) ∧ X.cell? ⟨w.heap.size, 2, none⟩ = some (.string p) ∧ X.cell? ⟨w.heap.size, 3, none⟩ = some (.slice a n cap)) ∧ X.cell? ⟨bl, 0, none⟩ = some (.string m) ∧ X.cell? ⟨bl, 1, none⟩ = some (.string h) ∧ X.cell? ⟨bl, 2, none⟩ = some (.string p) ∧ X.cell? ⟨bl, 3, none⟩ = some (.slice (some ⟨bx, 0, none⟩) n n))
    (first | exact HKS.out _ BB.out | exact HKS.out _ BA.out | exact HKS.out _ B0.out)
    (first
    | (go_at_call 37; refine (HT.out _ (HK.out _ B0.out).1).mono ?_; rintro e wa ⟨rfl, hma, hba⟩; have MA : Hid (QMine wa _ l) := hma; have BA : Hid (Below w6.heap.size w6 wa) := B0.out.trans (hba.mono B0.out.size); clear hba hma)
    | (go_at_call 39; refine (HQ.out _ _ _ (HK.out _ BA.out).2.2.2 MA.out).mono ?_; rintro e wb ⟨rfl, hbb⟩; have BB : Hid (Below w6.heap.size w6 wb) := BA.out.trans (hbb.mono BA.out.size); clear hbb))
  all_goals (go_wp2_with fail; go_ret; exact ⟨rfl, (HK.out _ BB.out).1⟩)
end Go.Proofs.YtojcjpdgjohldaaGreatDoor
/-
  Head lines that came in, opened.
-/
namespace Go.Proofs.YtojcjpdgjohldaaGreatDoor
open Go.ChangeShapes Go.WideShapes Go.ChangeAt Go.RowKit Go.Deep
theorem headerCells : Tryz.prog.cellsOf 168 = 2 := by kernel_rfl
theorem hOneS : Tryz.prog.cellsOf 9 = 1 := by kernel_rfl
theorem hdr_of {H : Type} {enc : TypeId × Value → H} {w : World} {base : Nat} {spare : Nat → Bool} {held : Bool} {fuel : Nat} {cs : List Value} {x : DataW H × List MemPlace}
    (h : DataW.trod enc Tryz.prog w base spare held fuel 168 cs = some x) : ∃ r : Hdr, cs = [.string r.name, .string r.value] ∧ r.name.size ≤ maxLen ∧ r.value.size ≤ maxLen := by
  obtain ⟨y0, y1, n, _, hl, h0, h2⟩ := trod_struct2 Tryz.underlying168 h
  rw [headerCells] at hl
  simp only [hOneS] at h0 h2
  obtain ⟨s0, e0, _, z0⟩ := DataW.trod_string Tryz.underlying9 h0
  obtain ⟨s2, e2, _, z2⟩ := DataW.trod_string Tryz.underlying9 h2
  match cs, hl with
  | [c0, c2], _ =>
    simp only [List.drop_zero, List.take_succ_cons, List.take_zero, List.drop_succ_cons, List.cons.injEq, and_true] at e0 e2
    exact ⟨⟨s0, s2⟩, by rw [e0, e2], z0, z2⟩
theorem open_headers {H : Type} {enc : TypeId × Value → H} {w : World} {base : Nat} {spare : Nat → Bool} {held : Bool} {fuel : Nat} {a : Option Addr} {len cap : Nat} {x : DataW H × List MemPlace}
    (h : DataW.trod enc Tryz.prog w base spare held fuel 54 [.slice a len cap] = some x) :
    ∃ l : List Hdr, l.length = len ∧ len ≤ maxLen ∧ SmallHdrs l ∧ (l = [] ∨ ∃ b off, a = some ⟨b, off, none⟩ ∧ HeadsAt w b off l) := by
  rcases open_slice Tryz.underlying54 h with ⟨hcs, _⟩ | ⟨A, len', cap', m, n, D, Pl, hcs, _, hl, hm, hmm, _, hel⟩
  · simp only [List.cons.injEq, Value.slice.injEq, and_true] at hcs
    obtain ⟨_, rfl, _⟩ := hcs
    exact ⟨[], rfl, by unfold maxLen; omega, fun i r hr => by simp at hr, .inl rfl⟩
  · simp only [List.cons.injEq, Value.slice.injEq, and_true] at hcs
    obtain ⟨rfl, rfl, rfl⟩ := hcs
    have hlm : len ≤ m := by rw [hmm]; split <;> omega
    have hrec : ∀ i, i < len → ∃ r : Hdr, w.cells? base (A.add (i * 2)) 2 = some [.string r.name, .string r.value] ∧ r.name.size ≤ maxLen ∧ r.value.size ≤ maxLen := by
      intro i hi
      obtain ⟨cs', hc, ht⟩ := hel i (by omega)
      rw [headerCells] at hc
      obtain ⟨r, rfl, z⟩ := hdr_of ht
      exact ⟨r, hc, z⟩
    obtain ⟨f, hf⟩ : ∃ f : Nat → Hdr, ∀ i, i < len → w.cells? base (A.add (i * 2)) 2 = some [.string (f i).name, .string (f i).value] ∧ (f i).name.size ≤ maxLen ∧ (f i).value.size ≤ maxLen := by
      classical
      refine ⟨fun i => if hi : i < len then (hrec i hi).choose else ⟨.empty, .empty⟩, fun i hi => ?_⟩
      simp only [dif_pos hi]
      exact (hrec i hi).choose_spec
    refine ⟨(List.range len).map f, by simp, by omega, ?_, ?_⟩
    · intro i r hr
      rw [List.getElem?_map] at hr
      obtain ⟨j, hj, rfl⟩ := Option.map_eq_some_iff.1 hr
      obtain ⟨hlt, rfl⟩ := List.getElem?_eq_some_iff.1 hj
      simp at hlt
      simpa using (hf i hlt).2
    · by_cases h0 : len = 0
      · subst h0; exact .inl rfl
      · obtain ⟨b, off, spot⟩ := A
        have cells : ∀ i, i < len → ∀ j, j < 2 → w.cell? ((⟨b, off, spot⟩ : Addr).add (i * 2 + j)) = ([.string (f i).name, .string (f i).value] : List Value)[j]? := by
          intro i hi j hj
          have c := (World.cells?_some (hf i hi).1).2.2 j hj
          rw [add_add] at c
          exact c
        have hs : spot = none := by
          have c := cells 0 (by omega) 0 (by omega)
          simp only [Nat.zero_mul, Nat.add_zero, List.getElem?_cons_zero] at c
          simpa [Addr.add] using World.cell?_spot c
        subst hs
        have hadd : ∀ i, (⟨b, off, none⟩ : Addr).add i = ⟨b, off + i, none⟩ := fun i => by unfold Addr.add; split <;> simp_all
        refine .inr ⟨b, off, rfl, fun i r hr => ?_⟩
        rw [List.getElem?_map] at hr
        obtain ⟨j, hj, rfl⟩ := Option.map_eq_some_iff.1 hr
        obtain ⟨hlt, rfl⟩ := List.getElem?_eq_some_iff.1 hj
        simp only [List.length_range] at hlt
        simp only [List.getElem_range]
        have q0 := cells i hlt 0 (by omega)
        have q1 := cells i hlt 1 (by omega)
        rw [hadd] at q0 q1
        exact ⟨by simpa using q0, by simpa [Nat.add_assoc] using q1⟩
end Go.Proofs.YtojcjpdgjohldaaGreatDoor
/-
  A request and a response that came in by value, opened.
-/
namespace Go.Proofs.YtojcjpdgjohldaaGreatDoor
open Go.ChangeShapes Go.WideShapes Go.ChangeAt Go.RowKit Go.Deep
theorem requestCells : Tryz.prog.cellsOf 56 = 4 := by kernel_rfl
theorem headsOne : Tryz.prog.cellsOf 54 = 1 := by kernel_rfl
theorem slice_cs {H : Type} {enc : TypeId × Value → H} {w : World} {base : Nat} {spare : Nat → Bool} {held : Bool} {fuel : Nat} {cs : List Value} {t e : TypeId} {x : DataW H × List MemPlace}
    (hu : Tryz.prog.underlying t = some (.slice e)) (h : DataW.trod enc Tryz.prog w base spare held fuel t cs = some x) : ∃ a len cap, cs = [.slice a len cap] := by
  rcases open_slice hu h with ⟨hcs, _⟩ | ⟨A, len', cap', m, n, D, Pl, hcs, _⟩
  · exact ⟨_, _, _, hcs⟩
  · exact ⟨_, _, _, hcs⟩
set_option maxRecDepth 100000 in
theorem open_request {H : Type} {enc : TypeId × Value → H} {w : World} {r : Reach} {b0 base : Nat} {spare : Nat → Bool} {held : Bool} {v : Value} {d : DataW H} {p : List MemPlace}
    (hv : Value.okWide Tryz.prog w r b0 56 v) (h : DataW.Trod enc Tryz.prog w base spare held 56 v d p) :
    ∃ (m h p : ByteArray) (a : Option Addr) (cap : Nat) (l : List Hdr), v = .agg #[.string m, .string h, .string p, .slice a l.length cap] ∧ m.size ≤ maxLen ∧ h.size ≤ maxLen ∧ p.size ≤ maxLen ∧ l.length ≤ maxLen ∧ SmallHdrs l ∧ (l = [] ∨ ∃ b off, a = some ⟨b, off, none⟩ ∧ HeadsAt w b off l) := by
  obtain ⟨cs, rfl, hsz⟩ := okWide_struct Tryz.underlying56 hv
  obtain ⟨fuel, hf0⟩ := h
  obtain ⟨xs, n, _, _, hl, hlen, hf⟩ := DataW.trod_struct Tryz.underlying56 hf0
  match xs, hlen with
  | [y0, y1, y2, y3], _ =>
    have h0 : DataW.trod enc Tryz.prog w base spare held n 9 (((Value.agg cs).cells.toList.drop 0).take (Tryz.prog.cellsOf 9)) = some y0 := hf 0 _ rfl
    have h1 : DataW.trod enc Tryz.prog w base spare held n 9 (((Value.agg cs).cells.toList.drop 1).take (Tryz.prog.cellsOf 9)) = some y1 := hf 1 _ rfl
    have h2 : DataW.trod enc Tryz.prog w base spare held n 9 (((Value.agg cs).cells.toList.drop 2).take (Tryz.prog.cellsOf 9)) = some y2 := hf 2 _ rfl
    have h3 : DataW.trod enc Tryz.prog w base spare held n 54 (((Value.agg cs).cells.toList.drop 3).take (Tryz.prog.cellsOf 54)) = some y3 := hf 3 _ rfl
    rw [hOneS] at h0 h1 h2
    rw [headsOne] at h3
    obtain ⟨s0, e0, _, z0⟩ := DataW.trod_string Tryz.underlying9 h0
    obtain ⟨s1, e1, _, z1⟩ := DataW.trod_string Tryz.underlying9 h1
    obtain ⟨s2, e2, _, z2⟩ := DataW.trod_string Tryz.underlying9 h2
    obtain ⟨a, len, cap, e3⟩ := slice_cs Tryz.underlying54 h3
    rw [e3] at h3
    obtain ⟨l, rfl, m3, s3, o3⟩ := open_headers h3
    refine ⟨s0, s1, s2, a, cap, l, ?_, z0, z1, z2, m3, s3, o3⟩
    have e : cs.toList = [.string s0, .string s1, .string s2, .slice a l.length cap] := by
      simp only [Value.cells] at e0 e1 e2 e3 hl
      rw [requestCells] at hl
      match hc : cs.toList, hl with
      | [c0, c1, c2, c3], _ =>
        rw [hc] at e0 e1 e2 e3
        simp only [List.drop_zero, List.take_succ_cons, List.take_zero, List.drop_succ_cons, List.cons.injEq, and_true] at e0 e1 e2 e3
        rw [e0, e1, e2, e3]
    congr 1
    exact Array.toList_inj.1 e
end Go.Proofs.YtojcjpdgjohldaaGreatDoor
/-
  As many variables are read as are named.
-/
namespace Go.Proofs.YtojcjpdgjohldaaGreatDoor
theorem trodVars_len {H : Type} {enc : TypeId × Value → H} {P : Program} {W : World} {sp : Nat → Bool} : ∀ {ns : List String} {gs : List (DataW H)} {ps : List MemPlace}, DataW.TrodVars enc P W sp ns gs ps → gs.length = ns.length
  | [], [], _, _ => rfl
  | [], _ :: _, _, h => h.elim
  | _ :: _, [], _, h => h.elim
  | n :: ns, d :: ds, ps, h => by
    obtain ⟨g, t, cs, fuel, p, q, h1, h2, h3, h4, hs, e⟩ := h
    simp [trodVars_len hs]
end Go.Proofs.YtojcjpdgjohldaaGreatDoor
