/-
  What the model's ItemsText answers.
-/
import Derived.Test.YtibomkcbopkpkaaDoorJoinPlain
import Derived.Test.YtibomkcbopkpkaaDoorItemsLaws
import Derived.Test.YtibomkcbopkpkaaDoorTextRoom
import Derived.Test.YtibomkcbopkpkaaDoorFields
namespace Go.Proofs.YtibomkcbopkpkaaDoor
open Go.ChangeShapes Go.WideShapes Go.ChangeAt Go.RowKit
set_option maxRecDepth 100000 in
set_option maxHeartbeats 8000000 in
theorem specText_loop (w : World) (a : Option Addr) (cap : Nat) (l : List Rec) (h20 : ¬ 20 < l.length) (hi : ItsIn w a l) :
    Calls Tryd.prog 33 #[.slice a l.length cap] w fun e w' => e = .returned (.agg #[.int .i64 (textC l), .string (textT l)]) ∧ Below w.heap.size w w' := by
  have HI : Hid (ItsIn w a l) := hi
  have H20 : Hid (¬ 20 < l.length) := h20
  clear hi
  generalize hn : l.length = n at *
  have HN : Hid (l.length = n) := hn
  clear hn
  have g : ¬ (20 : Int) < (n : Int) := by omega
  go_enter Tryd.func33, Tryd.ntmps33
  go_wp2_with fail
  go_loopw [3, 4] (fun v i wr => ∃ (k : Nat) (o : ByteArray), k ≤ n ∧ i = .int .i64 k ∧ v = .string o ∧ o.data.toList = joinL (l.take k) ∧ o.size ≤ k * 2069 ∧ faultL l = faultL (l.drop k) ∧ Below (w.heap.size + 1) (w.alloc (.cells #[.int .i64 0, .string ⟨#[]⟩] 26)) wr) (fun _ i _ => n - (intOf i).toNat)
  case atStart => exact ⟨0, ⟨#[]⟩, Nat.zero_le _, rfl, rfl, rfl, Nat.zero_le _, rfl, Below.refl _ _⟩
  case round =>
    obtain ⟨k, o, hk, rfl, rfl, ho, hos, hf, hb⟩ := hrel
    have HO : Hid (o.data.toList = joinL (l.take k)) := ho
    have HF : Hid (faultL l = faultL (l.drop k)) := hf
    have hz : w.heap.size + 1 ≤ wr.heap.size := by have := hb.size; rwa [World.size_alloc] at this
    clear ho hf
    by_cases hlt : k < n
    · obtain ⟨r, hr⟩ : ∃ r, l[k]? = some r := ⟨l[k]'(by have := HN.out; omega), List.getElem?_eq_getElem _⟩
      rcases HI.out with h | ⟨b, off, rfl, hat⟩
      · subst h; simp at hr
      have hwr : Below w.heap.size w wr := ((Below.refl _ _).alloc (Nat.le_refl _) _).trans (hb.mono (Nat.le_succ _))
      obtain ⟨p1, p2, p3⟩ := (hat.keep hwr) k r hr
      have HJ : Hid (joinL (l.take (k + 1)) = joinL (l.take k) ++ sepK k ++ itemL r) := joinL_take hr
      have HD : Hid (l.drop k = r :: l.drop (k + 1)) := drop_rec l k r hr
      have gk : (k : Int) < n := by omega
      clear hr hat HI hwr
      by_cases hfr : faultR r = 0
      · have HX : Hid (faultL l = faultL (l.drop (k + 1))) := by show _ = _; rw [HF.out, HD.out, faultL_ok hfr]
        have hil := itemL_len hfr
        obtain ⟨fw, fv, _⟩ := fault_zero hfr
        have hsk := sepK_len k
        have SF : Hid (∀ w, Calls Tryd.prog 80 #[.agg #[.string r.name, .bool r.has, .string r.value]] w fun e w' => e = .returned (.int .i64 0) ∧ Below w.heap.size w w') := by
          have := specFault_any r
          rw [hfr] at this
          exact this
        clear hfr HD HF
        obtain ⟨rn, rh, rv⟩ := r
        simp only at p1 p2 p3 SF fv fw
        have hrn : rn.size ≤ 64 := word_max fw
        have hoz : o.size ≤ 45000 := by omega
        clear fw
        by_cases hh : rh = false
        · subst hh
          have HI2 : Hid (itemL ⟨rn, false, rv⟩ = rn.data.toList) := itemL_bare rfl
          by_cases hk0 : k = 0
          · have gk0 : ¬ (0 : Int) < (k : Int) := by omega
            have HT : Hid ((o ++ rn : ByteArray).data.toList = joinL (l.take (k + 1))) := by
              show _ = _
              rw [HJ.out, HI2.out, ← HO.out, show sepK k = [] from by simp [sepK, hk0]]
              simp only [app_list, List.append_assoc, List.nil_append]
            have HU : Hid ((o ++ rn : ByteArray).size ≤ (k + 1) * 2069) := by
              show _ ≤ _
              have e1 : (o ++ rn : ByteArray).size = (joinL (l.take (k + 1))).length := by rw [← HT.out]; simp only [Array.length_toList]; rfl
              have e2 : o.size = (joinL (l.take k)).length := by rw [← HO.out]; simp only [Array.length_toList]; rfl
              rw [e1, HJ.out]
              simp only [List.length_append]
              omega
            clear HJ HI2 HO hil hsk hk0
            go_wp2_with fail
            refine (SF.out _).mono ?_
            rintro e w2 ⟨rfl, hb2⟩
            have p1 := f_keep hb2 p1
            have p2 := f_keep hb2 p2
            have p3 := f_keep hb2 p3
            have hbb := hb.trans (hb2.mono hz)
            clear hb2
            go_wp2_with fail
            go_roundw
            case rel => exact ⟨k + 1, o ++ rn, by omega, by go_num, rfl, HT.out, HU.out, HX.out, hbb⟩
            case measure => simp [intOf]; omega
          · have gk0 : (0 : Int) < (k : Int) := by omega
            have HT : Hid ((o ++ ⟨#[44, 32]⟩ ++ rn : ByteArray).data.toList = joinL (l.take (k + 1))) := by
              show _ = _
              rw [HJ.out, HI2.out, ← HO.out, show sepK k = [44, 32] from by simp [sepK, hk0]]
              simp only [app_list, List.append_assoc]
            have HU : Hid ((o ++ ⟨#[44, 32]⟩ ++ rn : ByteArray).size ≤ (k + 1) * 2069) := by
              show _ ≤ _
              have e1 : (o ++ ⟨#[44, 32]⟩ ++ rn : ByteArray).size = (joinL (l.take (k + 1))).length := by rw [← HT.out]; simp only [Array.length_toList]; rfl
              have e2 : o.size = (joinL (l.take k)).length := by rw [← HO.out]; simp only [Array.length_toList]; rfl
              rw [e1, HJ.out]
              simp only [List.length_append]
              omega
            clear HJ HI2 HO hil hsk hk0
            go_wp2_with fail
            refine (SF.out _).mono ?_
            rintro e w2 ⟨rfl, hb2⟩
            have p1 := f_keep hb2 p1
            have p2 := f_keep hb2 p2
            have p3 := f_keep hb2 p3
            have hbb := hb.trans (hb2.mono hz)
            clear hb2
            go_wp2_with fail
            go_roundw
            case rel => exact ⟨k + 1, o ++ ⟨#[44, 32]⟩ ++ rn, by omega, by go_num, rfl, HT.out, HU.out, HX.out, hbb⟩
            case measure => simp [intOf]; omega
        · have hh : rh = true := by cases rh <;> simp_all
          subst hh
          cases hw : wordS rv
          · have HI2 : Hid (itemL ⟨rn, true, rv⟩ = rn.data.toList ++ [61] ++ quoteL rv.data.toList) := itemL_quote rfl hw
            by_cases hk0 : k = 0
            · have gk0 : ¬ (0 : Int) < (k : Int) := by omega
              have HT : Hid ((o ++ rn ++ ⟨#[61]⟩ ++ quoteT rv : ByteArray).data.toList = joinL (l.take (k + 1))) := by
                show _ = _
                rw [HJ.out, HI2.out, ← HO.out, show sepK k = [] from by simp [sepK, hk0]]
                simp only [app_list, show (quoteT rv).data.toList = quoteL rv.data.toList from by simp [quoteT], List.append_assoc, List.nil_append]
              have HU : Hid ((o ++ rn ++ ⟨#[61]⟩ ++ quoteT rv : ByteArray).size ≤ (k + 1) * 2069) := by
                show _ ≤ _
                have e1 : (o ++ rn ++ ⟨#[61]⟩ ++ quoteT rv : ByteArray).size = (joinL (l.take (k + 1))).length := by rw [← HT.out]; simp only [Array.length_toList]; rfl
                have e2 : o.size = (joinL (l.take k)).length := by rw [← HO.out]; simp only [Array.length_toList]; rfl
                rw [e1, HJ.out]
                simp only [List.length_append]
                omega
              clear HJ HI2 HO hil hsk hk0
              go_wp2_with fail
              refine (SF.out _).mono ?_
              rintro e w2 ⟨rfl, hb2⟩
              have p1 := f_keep hb2 p1
              have p2 := f_keep hb2 p2
              have p3 := f_keep hb2 p3
              have hbb := hb.trans (hb2.mono hz)
              clear hb2
              go_wp2_with fail
              refine (specIsWord_any rv _).mono ?_
              rintro e w3 ⟨rfl, rfl⟩
              rw [hw]
              go_wp2_with fail
              refine (l2Quote_any rv _ (by omega)).mono ?_
              rintro e w4 ⟨rfl, hb4⟩
              have hbb := hbb.trans (hb4.mono (by have := hbb.size; rwa [World.size_alloc] at this))
              clear hb4
              have hqz := quoteT_max rv
              generalize quoteT rv = qv at *
              go_wp2_with fail
              go_roundw
              case rel => exact ⟨k + 1, o ++ rn ++ ⟨#[61]⟩ ++ qv, by omega, by go_num, rfl, HT.out, HU.out, HX.out, hbb⟩
              case measure => simp [intOf]; omega
            · have gk0 : (0 : Int) < (k : Int) := by omega
              have HT : Hid ((o ++ ⟨#[44, 32]⟩ ++ rn ++ ⟨#[61]⟩ ++ quoteT rv : ByteArray).data.toList = joinL (l.take (k + 1))) := by
                show _ = _
                rw [HJ.out, HI2.out, ← HO.out, show sepK k = [44, 32] from by simp [sepK, hk0]]
                simp only [app_list, show (quoteT rv).data.toList = quoteL rv.data.toList from by simp [quoteT], List.append_assoc]
              have HU : Hid ((o ++ ⟨#[44, 32]⟩ ++ rn ++ ⟨#[61]⟩ ++ quoteT rv : ByteArray).size ≤ (k + 1) * 2069) := by
                show _ ≤ _
                have e1 : (o ++ ⟨#[44, 32]⟩ ++ rn ++ ⟨#[61]⟩ ++ quoteT rv : ByteArray).size = (joinL (l.take (k + 1))).length := by rw [← HT.out]; simp only [Array.length_toList]; rfl
                have e2 : o.size = (joinL (l.take k)).length := by rw [← HO.out]; simp only [Array.length_toList]; rfl
                rw [e1, HJ.out]
                simp only [List.length_append]
                omega
              clear HJ HI2 HO hil hsk hk0
              go_wp2_with fail
              refine (SF.out _).mono ?_
              rintro e w2 ⟨rfl, hb2⟩
              have p1 := f_keep hb2 p1
              have p2 := f_keep hb2 p2
              have p3 := f_keep hb2 p3
              have hbb := hb.trans (hb2.mono hz)
              clear hb2
              go_wp2_with fail
              refine (specIsWord_any rv _).mono ?_
              rintro e w3 ⟨rfl, rfl⟩
              rw [hw]
              go_wp2_with fail
              refine (l2Quote_any rv _ (by omega)).mono ?_
              rintro e w4 ⟨rfl, hb4⟩
              have hbb := hbb.trans (hb4.mono (by have := hbb.size; rwa [World.size_alloc] at this))
              clear hb4
              have hqz := quoteT_max rv
              generalize quoteT rv = qv at *
              go_wp2_with fail
              go_roundw
              case rel => exact ⟨k + 1, o ++ ⟨#[44, 32]⟩ ++ rn ++ ⟨#[61]⟩ ++ qv, by omega, by go_num, rfl, HT.out, HU.out, HX.out, hbb⟩
              case measure => simp [intOf]; omega
          · have HI2 : Hid (itemL ⟨rn, true, rv⟩ = rn.data.toList ++ [61] ++ rv.data.toList) := itemL_word rfl hw
            by_cases hk0 : k = 0
            · have gk0 : ¬ (0 : Int) < (k : Int) := by omega
              have HT : Hid ((o ++ rn ++ ⟨#[61]⟩ ++ rv : ByteArray).data.toList = joinL (l.take (k + 1))) := by
                show _ = _
                rw [HJ.out, HI2.out, ← HO.out, show sepK k = [] from by simp [sepK, hk0]]
                simp only [app_list, List.append_assoc, List.nil_append]
              have HU : Hid ((o ++ rn ++ ⟨#[61]⟩ ++ rv : ByteArray).size ≤ (k + 1) * 2069) := by
                show _ ≤ _
                have e1 : (o ++ rn ++ ⟨#[61]⟩ ++ rv : ByteArray).size = (joinL (l.take (k + 1))).length := by rw [← HT.out]; simp only [Array.length_toList]; rfl
                have e2 : o.size = (joinL (l.take k)).length := by rw [← HO.out]; simp only [Array.length_toList]; rfl
                rw [e1, HJ.out]
                simp only [List.length_append]
                omega
              clear HJ HI2 HO hil hsk hk0
              go_wp2_with fail
              refine (SF.out _).mono ?_
              rintro e w2 ⟨rfl, hb2⟩
              have p1 := f_keep hb2 p1
              have p2 := f_keep hb2 p2
              have p3 := f_keep hb2 p3
              have hbb := hb.trans (hb2.mono hz)
              clear hb2
              go_wp2_with fail
              refine (specIsWord_any rv _).mono ?_
              rintro e w3 ⟨rfl, rfl⟩
              rw [hw]
              go_wp2_with fail
              go_roundw
              case rel => exact ⟨k + 1, o ++ rn ++ ⟨#[61]⟩ ++ rv, by omega, by go_num, rfl, HT.out, HU.out, HX.out, hbb⟩
              case measure => simp [intOf]; omega
            · have gk0 : (0 : Int) < (k : Int) := by omega
              have HT : Hid ((o ++ ⟨#[44, 32]⟩ ++ rn ++ ⟨#[61]⟩ ++ rv : ByteArray).data.toList = joinL (l.take (k + 1))) := by
                show _ = _
                rw [HJ.out, HI2.out, ← HO.out, show sepK k = [44, 32] from by simp [sepK, hk0]]
                simp only [app_list, List.append_assoc]
              have HU : Hid ((o ++ ⟨#[44, 32]⟩ ++ rn ++ ⟨#[61]⟩ ++ rv : ByteArray).size ≤ (k + 1) * 2069) := by
                show _ ≤ _
                have e1 : (o ++ ⟨#[44, 32]⟩ ++ rn ++ ⟨#[61]⟩ ++ rv : ByteArray).size = (joinL (l.take (k + 1))).length := by rw [← HT.out]; simp only [Array.length_toList]; rfl
                have e2 : o.size = (joinL (l.take k)).length := by rw [← HO.out]; simp only [Array.length_toList]; rfl
                rw [e1, HJ.out]
                simp only [List.length_append]
                omega
              clear HJ HI2 HO hil hsk hk0
              go_wp2_with fail
              refine (SF.out _).mono ?_
              rintro e w2 ⟨rfl, hb2⟩
              have p1 := f_keep hb2 p1
              have p2 := f_keep hb2 p2
              have p3 := f_keep hb2 p3
              have hbb := hb.trans (hb2.mono hz)
              clear hb2
              go_wp2_with fail
              refine (specIsWord_any rv _).mono ?_
              rintro e w3 ⟨rfl, rfl⟩
              rw [hw]
              go_wp2_with fail
              go_roundw
              case rel => exact ⟨k + 1, o ++ ⟨#[44, 32]⟩ ++ rn ++ ⟨#[61]⟩ ++ rv, by omega, by go_num, rfl, HT.out, HU.out, HX.out, hbb⟩
              case measure => simp [intOf]; omega
      · have HX : Hid (faultL l = faultR r) := by show _ = _; rw [HF.out, HD.out, faultL_bad hfr]
        have HY : Hid (textC l = faultR r ∧ textT l = ⟨#[]⟩) := by
          have := textC_fault (by rw [HN.out]; exact h20 : ¬ 20 < l.length) (by rw [HX.out]; exact hfr)
          rw [HX.out] at this
          exact this
        have SF : Hid (∀ w, Calls Tryd.prog 80 #[.agg #[.string r.name, .bool r.has, .string r.value]] w fun e w' => e = .returned (.int .i64 (faultR r)) ∧ Below w.heap.size w w') := specFault_any r
        clear HD HF HX
        obtain ⟨rn, rh, rv⟩ := r
        simp only at p1 p2 p3 SF
        generalize faultR ⟨rn, rh, rv⟩ = fr at *
        go_wp2_with fail
        refine (SF.out _).mono ?_
        rintro e w2 ⟨rfl, hb2⟩
        obtain ⟨hz2, q0, q1, f0, f1, kb⟩ := text_room (hb.trans (hb2.mono hz))
        obtain ⟨r0, r1⟩ := two_set (v0 := .int .i64 fr) (v1 := .string ⟨#[]⟩) q0 q1
        clear hb hb2 p1 p2 p3
        go_wp2_with fail
        exact bodyPost_ret (v := .agg #[.int .i64 fr, .string ⟨#[]⟩]) (by simp [results, Tryd.results33, go_sem, r0, r1]) rfl ⟨ret_ct HY.out, (kb.setCell (Nat.le_refl _) _).setCell (Nat.le_refl _) _⟩
    · have ek : l.take k = l := List.take_of_length_le (by have := HN.out; omega)
      have HX : Hid (faultL l = 0) := by show _ = _; rw [HF.out, List.drop_of_length_le (by have := HN.out; omega)]; rfl
      have ho2 : o.size = (joinL l).length := by rw [← ek, ← HO.out]; simp
      have HT : Hid ((⟨(joinL l).toArray⟩ : ByteArray) = o) := by
        show _ = _
        rw [← ek, ← HO.out]
      obtain ⟨hz2, q0, q1, f0, f1, kb⟩ := text_room hb
      by_cases hbig : 1000 < o.size
      · have HY : Hid (textC l = 2 ∧ textT l = ⟨#[]⟩) := textC_long (by rw [HN.out]; exact h20) HX.out (by omega)
        have gb : (1000 : Int) < o.size := by omega
        obtain ⟨r0, r1⟩ := two_set (v0 := .int .i64 2) (v1 := .string ⟨#[]⟩) q0 q1
        clear HX HT ho2 ek
        go_wp2_with fail
        exact bodyPost_ret (v := .agg #[.int .i64 2, .string ⟨#[]⟩]) (by simp [results, Tryd.results33, go_sem, r0, r1]) rfl ⟨ret_ct HY.out, (kb.setCell (Nat.le_refl _) _).setCell (Nat.le_refl _) _⟩
      · have HY : Hid (textC l = 0 ∧ textT l = o) := by
          have := textC_ok (by rw [HN.out]; exact h20 : ¬ 20 < l.length) HX.out (by omega)
          rw [HT.out] at this
          exact this
        have gb : ¬ (1000 : Int) < o.size := by omega
        obtain ⟨r0, r1⟩ := two_set (v0 := .int .i64 0) (v1 := .string o) q0 q1
        clear HX HT ho2 ek
        go_wp2_with fail
        exact bodyPost_ret (v := .agg #[.int .i64 0, .string o]) (by simp [results, Tryd.results33, go_sem, r0, r1]) rfl ⟨ret_ct HY.out, (kb.setCell (Nat.le_refl _) _).setCell (Nat.le_refl _) _⟩
set_option maxHeartbeats 400000 in
theorem specText_any (w : World) (a : Option Addr) (cap : Nat) (l : List Rec) (hl : l.length ≤ 1048576) (hi : ItsIn w a l) :
    Calls Tryd.prog 33 #[.slice a l.length cap] w fun e w' => e = .returned (.agg #[.int .i64 (textC l), .string (textT l)]) ∧ Below w.heap.size w w' := by
  by_cases h20 : 20 < l.length
  · rw [(textC_many h20).1, (textC_many h20).2]
    have g : (20 : Int) < (l.length : Int) := by omega
    clear hi
    go_enter Tryd.func33, Tryd.ntmps33
    go_wp2
    exact bodyPost_ret (v := .agg #[.int .i64 2, .string ⟨#[]⟩]) (by simp [results, Tryd.results33, go_sem]) rfl ⟨rfl, (Below.refl _ _).alloc (Nat.le_refl _) _⟩
  · exact specText_loop w a cap l h20 hi
end Go.Proofs.YtibomkcbopkpkaaDoor
