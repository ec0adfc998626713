/-
  What ItemsText answers.
-/
import Derived.Test.YtibomkcbopkpkaaDoorItemText
import Derived.Test.YtibomkcbopkpkaaDoorStrRow
import Derived.Test.YtibomkcbopkpkaaDoorItemsLaws
import Derived.Test.YtibomkcbopkpkaaDoorTextRoom
namespace Go.Proofs.YtibomkcbopkpkaaDoor
open Go.ChangeShapes Go.WideShapes Go.ChangeAt Go.RowKit
theorem join_items (l : List Rec) : Lib.join ((l.map itemB).map (·.data.toList)) [44, 32] = joinL l := by
  unfold joinL
  rw [List.map_map]
  congr 1
theorem joinL_max (l : List Rec) (h : ∀ (i : Nat) r, l[i]? = some r → faultR r = 0) : ∀ k, k ≤ l.length → (joinL (l.take k)).length ≤ k * 2069 := by
  intro k
  induction k with
  | zero => intro _; simp [joinL, Lib.join, List.intercalate]
  | succ k ih =>
    intro hk
    have hr : l[k]? = some l[k] := List.getElem?_eq_getElem (by omega)
    rw [joinL_take hr]
    have h1 := ih (by omega)
    have h2 := itemL_len (h k _ hr)
    have h3 := sepK_len k
    simp only [List.length_append]
    omega
theorem faultL_zero (l : List Rec) (h : faultL l = 0) : ∀ (i : Nat) r, l[i]? = some r → faultR r = 0 := by
  induction l with
  | nil => intro i r hr; simp at hr
  | cons x l ih =>
    intro i r hr
    by_cases c : faultR x = 0
    · rw [faultL_ok c] at h
      cases i with
      | zero => simp at hr; subst hr; exact c
      | succ i => exact ih h i r (by simpa using hr)
    · rw [faultL_bad c] at h; exact absurd h c
set_option maxRecDepth 100000 in
set_option maxHeartbeats 8000000 in
theorem implText_loop (w : World) (a : Option Addr) (cap : Nat) (l : List Rec) (hset : SetIs w) (h20 : ¬ 20 < l.length) (hi : ItsIn w a l) :
    Calls Tryd.prog 28 #[.slice a l.length cap] w fun e w' => e = .returned (.agg #[.int .i64 (textC l), .string (textT l)]) ∧ Below w.heap.size w w' := by
  have HI : Hid (ItsIn w a l) := hi
  have HS : Hid (SetIs w) := hset
  clear hi hset
  generalize hn : l.length = n at *
  have HN : Hid (l.length = n) := hn
  clear hn
  have g : ¬ (20 : Int) < (n : Int) := by omega
  go_enter Tryd.func28, Tryd.ntmps28
  go_wp2_with fail
  go_loopw [3, 14] (fun v i wr => ∃ (k : Nat), k ≤ n ∧ i = .int .i64 k ∧ OwnS wr (w.heap.size + 1) v ((l.take k).map itemB) ∧ faultL l = faultL (l.drop k) ∧ Below (w.heap.size + 1) (w.alloc (.cells #[.int .i64 0, .string ⟨#[]⟩] 26)) wr) (fun _ i _ => n - (intOf i).toNat)
  case atStart => exact ⟨0, Nat.zero_le _, rfl, OwnS.nil _ _, rfl, Below.refl _ _⟩
  case round =>
    obtain ⟨k, hk, rfl, ho, hf, hb⟩ := hrel
    have HO : Hid (OwnS wr (w.heap.size + 1) u3 ((l.take k).map itemB)) := ho
    have HF : Hid (faultL l = faultL (l.drop k)) := hf
    have hz : w.heap.size + 1 ≤ wr.heap.size := by have := hb.size; rwa [World.size_alloc] at this
    have hwr : Below w.heap.size w wr := ((Below.refl _ _).alloc (Nat.le_refl _) _).trans (hb.mono (Nat.le_succ _))
    clear ho hf
    by_cases hlt : k < n
    · obtain ⟨r, hr⟩ : ∃ r, l[k]? = some r := ⟨l[k]'(by have := HN.out; omega), List.getElem?_eq_getElem _⟩
      rcases HI.out with h | ⟨b, off, rfl, hat⟩
      · subst h; simp at hr
      obtain ⟨p1, p2, p3⟩ := (hat.keep hwr) k r hr
      have HJ : Hid ((l.take (k + 1)).map itemB = (l.take k).map itemB ++ [itemB r]) := by show _ = _; rw [take_rec hr, List.map_append]; rfl
      have HD : Hid (l.drop k = r :: l.drop (k + 1)) := drop_rec l k r hr
      have hlk : ((l.take k).map itemB).length ≤ 20 := by rw [List.length_map, List.length_take]; omega
      have gk : (k : Int) < n := by omega
      have hsr : SetIs (wr.alloc (.cells #[.string r.name, .bool r.has, .string r.value] 80)) := (HS.out.below hwr).below ((Below.refl _ _).alloc (Nat.le_refl _) _)
      have SF := implFault_any r _ hsr
      have ST := fun W h => itemText_any r W h
      clear hr hat HI
      by_cases hfr : faultR r = 0
      · have HX : Hid (faultL l = faultL (l.drop (k + 1))) := by show _ = _; rw [HF.out, HD.out, faultL_ok hfr]
        have ST2 : Hid (∀ W, SetIs W → Calls Tryd.prog 76 #[.agg #[.string r.name, .bool r.has, .string r.value]] W fun e w' => e = .returned (.string (itemB r)) ∧ Below W.heap.size W w') := fun W h => ST W h hfr
        rw [hfr] at SF
        clear hfr HD HF ST
        generalize itemB r = ib at *
        obtain ⟨rn, rh, rv⟩ := r
        simp only at p1 p2 p3 SF ST2 hsr
        have HSF : Hid (Calls Tryd.prog 75 #[.agg #[.string rn, .bool rh, .string rv]] (wr.alloc (.cells #[.string rn, .bool rh, .string rv] 80)) fun e w' => e = .returned (.int .i64 0) ∧ Below (wr.alloc (.cells #[.string rn, .bool rh, .string rv] 80)).heap.size (wr.alloc (.cells #[.string rn, .bool rh, .string rv] 80)) w') := SF
        have HSR : Hid (SetIs (wr.alloc (.cells #[.string rn, .bool rh, .string rv] 80))) := hsr
        clear SF hsr hwr
        go_wp2_with fail
        refine HSF.out.mono ?_
        rintro e w2 ⟨rfl, hb2⟩
        have S2 : Hid (SetIs w2) := HSR.out.below hb2
        obtain ⟨hz2, p1, p2, p3, kb2⟩ := item_room hb2
        have KB2 : Hid (Below wr.heap.size wr w2) := kb2
        clear hb2 kb2 HSF HSR
        go_wp2_with fail
        refine (ST2.out _ S2.out).mono ?_
        rintro e w3 ⟨rfl, hb3⟩
        have KB3 : Hid (Below wr.heap.size wr w3) := KB2.out.trans (hb3.mono KB2.out.size)
        have HO3 : Hid (OwnS w3 (w.heap.size + 1) u3 ((l.take k).map itemB)) := HO.out.below KB3.out
        have hz3 : w.heap.size + 1 ≤ w3.heap.size := Nat.le_trans hz KB3.out.size
        have HB3 : Hid (Below (w.heap.size + 1) (w.alloc (.cells #[.int .i64 0, .string ⟨#[]⟩] 26)) w3) := hb.trans (KB3.out.mono hz)
        clear hb3 KB2 KB3 S2 ST2 HO hb
        generalize (l.take k).map itemB = L at *
        go_wp2_with (at_builtin; refine wpList_append_str _ rfl (.tmp 24) (.tmp 27) rfl (w.heap.size + 1) _ L ib rfl rfl HO3.out (by omega) hz3 ?_; intro v4 w4 HO4 hb4 hz4)
        go_roundw
        case rel => exact ⟨k + 1, by omega, by go_num, by rw [HJ.out]; exact HO4, HX.out, HB3.out.trans hb4⟩
        case measure => simp [intOf]; omega
      · have HX : Hid (faultL l = faultR r) := by show _ = _; rw [HF.out, HD.out, faultL_bad hfr]
        have HY : Hid (textC l = faultR r ∧ textT l = ⟨#[]⟩) := by
          have := textC_fault (by rw [HN.out]; exact h20 : ¬ 20 < l.length) (by rw [HX.out]; exact hfr)
          rw [HX.out] at this
          exact this
        clear HD HF HX ST
        obtain ⟨rn, rh, rv⟩ := r
        simp only at p1 p2 p3 SF
        generalize faultR ⟨rn, rh, rv⟩ = fr at *
        have HSF : Hid (Calls Tryd.prog 75 #[.agg #[.string rn, .bool rh, .string rv]] (wr.alloc (.cells #[.string rn, .bool rh, .string rv] 80)) fun e w' => e = .returned (.int .i64 fr) ∧ Below (wr.alloc (.cells #[.string rn, .bool rh, .string rv] 80)).heap.size (wr.alloc (.cells #[.string rn, .bool rh, .string rv] 80)) w') := SF
        clear SF hsr hwr
        go_wp2_with fail
        refine HSF.out.mono ?_
        rintro e w2 ⟨rfl, hb2⟩
        obtain ⟨hz2, _, _, _, kb2⟩ := item_room hb2
        obtain ⟨hz2, q0, q1, f0, f1, kb⟩ := text_room (hb.trans (kb2.mono hz))
        obtain ⟨r0, r1⟩ := two_set (v0 := .int .i64 fr) (v1 := .string ⟨#[]⟩) q0 q1
        clear hb hb2 kb2 p1 p2 p3 HSF HO
        go_wp2_with fail
        exact bodyPost_ret (v := .agg #[.int .i64 fr, .string ⟨#[]⟩]) (by simp [results, Tryd.results28, go_sem, r0, r1]) rfl ⟨ret_ct HY.out, (kb.setCell (Nat.le_refl _) _).setCell (Nat.le_refl _) _⟩
    · have ek : l.take k = l := List.take_of_length_le (by have := HN.out; omega)
      have HX : Hid (faultL l = 0) := by show _ = _; rw [HF.out, List.drop_of_length_le (by have := HN.out; omega)]; rfl
      have hlen : (joinL l).length ≤ 45000 := by
        have := joinL_max l (faultL_zero l HX.out) l.length (Nat.le_refl _)
        rw [List.take_length] at this
        have := HN.out
        omega
      have HO2 := HO.out
      rw [ek] at HO2
      have HJ := join_own wr _ u3 _ HO2 (by rw [List.length_map, HN.out]; omega) (by rw [join_items]; omega)
      rw [join_items] at HJ
      have ho2 : (⟨(joinL l).toArray⟩ : ByteArray).size = (joinL l).length := by simp [ByteArray.size]
      have YL : Hid (1000 < (⟨(joinL l).toArray⟩ : ByteArray).size → textC l = 2 ∧ textT l = ⟨#[]⟩) := fun h => textC_long (by rw [HN.out]; exact h20) HX.out (by omega)
      have YS : Hid (¬ 1000 < (⟨(joinL l).toArray⟩ : ByteArray).size → textC l = 0 ∧ textT l = ⟨(joinL l).toArray⟩) := fun h => textC_ok (by rw [HN.out]; exact h20) HX.out (by omega)
      have hoz : (⟨(joinL l).toArray⟩ : ByteArray).size ≤ 45000 := by omega
      generalize (⟨(joinL l).toArray⟩ : ByteArray) = o at *
      have HJJ : Hid (Calls Tryd.prog 77 #[u3, .string ⟨#[44, 32]⟩] wr fun e w' => e = .returned (.string o) ∧ Below wr.heap.size wr w') := HJ
      have HBr : Hid (Below (w.heap.size + 1) (w.alloc (.cells #[.int .i64 0, .string ⟨#[]⟩] 26)) wr) := hb
      clear HX ho2 ek HO2 HO HJ hlen HF HI hb hwr
      go_wp2_with fail
      refine HJJ.out.mono ?_
      rintro e w2 ⟨rfl, hb2⟩
      go_wp2_with fail
      refine (clone_text o _ (by omega)).mono ?_
      rintro e w3 ⟨rfl, hb3⟩
      obtain ⟨hz2, q0, q1, f0, f1, kb⟩ := text_room (HBr.out.trans ((hb2.trans (hb3.mono hb2.size)).mono hz))
      clear hb2 hb3 HJJ HBr
      by_cases hbig : 1000 < o.size
      · have HY := YL.out hbig
        have gb : (1000 : Int) < o.size := by omega
        obtain ⟨r0, r1⟩ := two_set (v0 := .int .i64 2) (v1 := .string ⟨#[]⟩) q0 q1
        have HYY : Hid (textC l = 2 ∧ textT l = ⟨#[]⟩) := HY
        clear HY YL YS
        go_wp2_with fail
        exact bodyPost_ret (v := .agg #[.int .i64 2, .string ⟨#[]⟩]) (by simp [results, Tryd.results28, go_sem, r0, r1]) rfl ⟨ret_ct HYY.out, (kb.setCell (Nat.le_refl _) _).setCell (Nat.le_refl _) _⟩
      · have HY := YS.out hbig
        have gb : ¬ (1000 : Int) < o.size := by omega
        obtain ⟨r0, r1⟩ := two_set (v0 := .int .i64 0) (v1 := .string o) q0 q1
        have HYY : Hid (textC l = 0 ∧ textT l = o) := HY
        clear HY YL YS
        go_wp2_with fail
        exact bodyPost_ret (v := .agg #[.int .i64 0, .string o]) (by simp [results, Tryd.results28, go_sem, r0, r1]) rfl ⟨ret_ct HYY.out, (kb.setCell (Nat.le_refl _) _).setCell (Nat.le_refl _) _⟩
set_option maxHeartbeats 400000 in
theorem implText_any (w : World) (a : Option Addr) (cap : Nat) (l : List Rec) (hset : SetIs w) (hl : l.length ≤ 1048576) (hi : ItsIn w a l) :
    Calls Tryd.prog 28 #[.slice a l.length cap] w fun e w' => e = .returned (.agg #[.int .i64 (textC l), .string (textT l)]) ∧ Below w.heap.size w w' := by
  by_cases h20 : 20 < l.length
  · rw [(textC_many h20).1, (textC_many h20).2]
    have g : (20 : Int) < (l.length : Int) := by omega
    clear hi hset
    go_enter Tryd.func28, Tryd.ntmps28
    go_wp2
    exact bodyPost_ret (v := .agg #[.int .i64 2, .string ⟨#[]⟩]) (by simp [results, Tryd.results28, go_sem]) rfl ⟨rfl, (Below.refl _ _).alloc (Nat.le_refl _) _⟩
  · exact implText_loop w a cap l hset h20 hi
end Go.Proofs.YtibomkcbopkpkaaDoor
