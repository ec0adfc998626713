/-
  What UnquoteText answers.
-/
import Derived.Test.YtibomkcbopkpkaaDoorQuoteEnd
import Derived.Test.YtibomkcbopkpkaaDoorPlainImpl
import Derived.Test.YtibomkcbopkpkaaDoorTextRoom
namespace Go.Proofs.YtibomkcbopkpkaaDoor
open Go.ChangeShapes Go.WideShapes Go.ChangeAt Go.RowKit
set_option maxHeartbeats 400000 in
theorem implUnquote_long (s : ByteArray) (w : World) (h : 2002 < s.size) :
    Calls Tryd.prog 151 #[.string s] w fun e w' => e = .returned (.agg #[.int .i64 2, .string ⟨#[]⟩]) ∧ Below w.heap.size w w' := by
  have hh : (2002 : Int) < s.size := by omega
  go_enter Tryd.func151, Tryd.ntmps151
  go_wp2
  exact bodyPost_ret (v := .agg #[.int .i64 2, .string ⟨#[]⟩]) (by simp [results, Tryd.results151, go_sem]) rfl ⟨rfl, (Below.refl _ _).alloc (Nat.le_refl _) _⟩
set_option maxHeartbeats 1000000 in
theorem implUnquote_bad (s : ByteArray) (w : World) (hs : s.size ≤ 2002) (hp : unqB s = false) :
    Calls Tryd.prog 151 #[.string s] w fun e w' => e = .returned (.agg #[.int .i64 5, .string ⟨#[]⟩]) ∧ Below w.heap.size w w' := by
  have hh : ¬ (2002 : Int) < s.size := by omega
  rw [unqB_ends] at hp
  by_cases h1 : s.data.toList.head? = some 34
  · have H1 : Hid (decide (s.data.toList.head? = some 34) = true) := by show _ = _; simpa using h1
    have h0 : 0 < s.size := by
      cases e : s.data.toList with
      | nil => rw [e] at h1; simp at h1
      | cons c t => have := size_list s
                    rw [e] at this; simp only [List.length_cons] at this; omega
    have H2 := quoteEnd_any s 0 (w.alloc (.cells #[.int .i64 0, .string ⟨#[]⟩] 26)) (by omega) h0
    by_cases h2 : qEnd s.data.toList 0 + 1 = s.size
    · have HP : Hid (plainL s.data.toList = false) := by
        show _ = _
        rw [H1.out, show decide (qEnd s.data.toList 0 + 1 = s.size) = true from by simpa using h2] at hp
        simpa using hp
      generalize qEnd s.data.toList 0 = q at *
      have e2 : ((q : Int) != (s.size : Int) - 1) = false := by simp; omega
      clear hp h1
      go_enter Tryd.func151, Tryd.ntmps151
      go_wp2_with fail
      refine (hasQuote_any s _ (by omega)).mono ?_
      rintro e w1 ⟨rfl, rfl⟩
      rw [H1.out]
      go_wp2_with fail
      refine H2.mono ?_
      rintro e w1 ⟨rfl, rfl⟩
      go_wp2_with fail
      refine (allPlain_any s _ (by omega)).mono ?_
      rintro e w1 ⟨rfl, rfl⟩
      rw [HP.out]
      go_wp2
      exact bodyPost_ret (v := .agg #[.int .i64 5, .string ⟨#[]⟩]) (by simp [results, Tryd.results151, go_sem]) rfl ⟨rfl, (Below.refl _ _).alloc (Nat.le_refl _) _⟩
    · have hq := qLen_le (s.data.toList.drop 1)
      generalize hqe : qEnd s.data.toList 0 = q at *
      have e2 : ((q : Int) != (s.size : Int) - 1) = true := by simp; omega
      clear hp h1
      go_enter Tryd.func151, Tryd.ntmps151
      go_wp2_with fail
      refine (hasQuote_any s _ (by omega)).mono ?_
      rintro e w1 ⟨rfl, rfl⟩
      rw [H1.out]
      go_wp2_with fail
      refine H2.mono ?_
      rintro e w1 ⟨rfl, rfl⟩
      go_wp2_with fail
      exact bodyPost_ret (v := .agg #[.int .i64 5, .string ⟨#[]⟩]) (by simp [results, Tryd.results151, go_sem]) rfl ⟨rfl, (Below.refl _ _).alloc (Nat.le_refl _) _⟩
  · have H1 : Hid (decide (s.data.toList.head? = some 34) = false) := by show _ = _; simpa using h1
    clear hp h1
    go_enter Tryd.func151, Tryd.ntmps151
    go_wp2_with fail
    refine (hasQuote_any s _ (by omega)).mono ?_
    rintro e w1 ⟨rfl, rfl⟩
    rw [H1.out]
    go_wp2_with fail
    exact bodyPost_ret (v := .agg #[.int .i64 5, .string ⟨#[]⟩]) (by simp [results, Tryd.results151, go_sem]) rfl ⟨rfl, (Below.refl _ _).alloc (Nat.le_refl _) _⟩
/-- One byte further on, where the quotes end as they should. -/
theorem unq_last {acc l : List UInt8} (h : (unq acc l).2 = true) (hl : l.length = 1) : (unq acc l).1 = acc := by
  match l, hl with
  | [c], _ =>
    by_cases e : (c.toNat : Int) = 34
    · simp only [unq, if_pos e]
    · simp only [unq, if_neg e] at h; cases h
theorem unq_far {acc l : List UInt8} (h : (unq acc l).2 = true) : l ≠ [] := by
  intro e; subst e; simp [unq] at h
set_option maxHeartbeats 4000000 in
theorem implUnquote_any (s : ByteArray) (w : World) (hs : s.size ≤ 2002) (hp : unqB s = true) :
    Calls Tryd.prog 151 #[.string s] w fun e w' => e = .returned (.agg #[.int .i64 0, .string (unqS s)]) ∧ Below w.heap.size w w' := by
  have hh : ¬ (2002 : Int) < s.size := by omega
  have HB : Hid (unqB s = true) := hp
  rw [unqB_ends, Bool.and_eq_true, Bool.and_eq_true, decide_eq_true_iff, decide_eq_true_iff] at hp
  obtain ⟨⟨h1, h2⟩, h3⟩ := hp
  have H1 : Hid (decide (s.data.toList.head? = some 34) = true) := by show _ = _; simpa using h1
  have hq0 : 1 ≤ qEnd s.data.toList 0 := by unfold qEnd; omega
  have h0 : 0 < s.size := by omega
  have HT : Hid (unqT s.data.toList = unq [] (s.data.toList.drop 1)) := unqT_go (by have := size_list s; omega) h1 h3
  have HP : Hid (plainL s.data.toList = true) := h3
  have H2 := quoteEnd_any s 0 (w.alloc (.cells #[.int .i64 0, .string ⟨#[]⟩] 26)) (by omega) h0
  generalize qEnd s.data.toList 0 = q at *
  have e2 : ((q : Int) != (s.size : Int) - 1) = false := by simp; omega
  clear h1 h3
  go_enter Tryd.func151, Tryd.ntmps151
  go_wp2_with fail
  refine (hasQuote_any s _ (by omega)).mono ?_
  rintro e w1 ⟨rfl, rfl⟩
  rw [H1.out]
  go_wp2_with fail
  refine H2.mono ?_
  rintro e w1 ⟨rfl, rfl⟩
  go_wp2_with fail
  refine (allPlain_any s _ (by omega)).mono ?_
  rintro e w1 ⟨rfl, rfl⟩
  rw [HP.out]
  clear HP H1
  go_wp2
  go_loopw [3, 4] (fun v i wr => ∃ (k : Nat) (acc : List UInt8), k < s.size ∧ acc.length ≤ k ∧ i = .int .i64 k ∧ OwnR wr (w.heap.size + 1) v acc ∧ unqT s.data.toList = unq acc (s.data.toList.drop k) ∧ Below (w.heap.size + 1) (w.alloc (.cells #[.int .i64 0, .string ⟨#[]⟩] 26)) wr) (fun _ i _ => s.size - (intOf i).toNat)
  case atStart => exact ⟨1, [], by omega, by simp, rfl, OwnR.nil _ _, HT.out, Below.refl _ _⟩
  case round =>
    obtain ⟨k, acc, hk, ha, rfl, hown, hq, hb⟩ := hrel
    have HO : Hid (OwnR wr (w.heap.size + 1) u3 acc) := hown
    have HQ : Hid (unqT s.data.toList = unq acc (s.data.toList.drop k)) := hq
    have HR : Hid ((unq acc (s.data.toList.drop k)).2 = true) := by
      show _ = _
      rw [← HQ.out]; exact HB.out
    have hz : w.heap.size + 1 ≤ wr.heap.size := by have := hb.size; rwa [World.size_alloc] at this
    have HD : Hid (s.data.toList.drop k = s[k] :: s.data.toList.drop (k + 1)) := drop_at s k hk
    clear hown hq HT
    by_cases hlt : k + 1 < s.size
    · have g0 : (k : Int) < (s.size : Int) - 1 := by omega
      by_cases c2 : (s[k].toNat : Int) = 92
      · have e2 : ((s[k].toNat : Int) == 92) = true := by simpa using c2
        have HE : Hid (unqT s.data.toList = unq (acc ++ [s[k + 1]]) (s.data.toList.drop (k + 2))) := by
          show _ = _
          rw [HQ.out, HD.out, drop_at s (k + 1) hlt, unq_esc _ _ _ _ c2]
        have hk2 : k + 2 < s.size := by
          have h := HB.out
          unfold unqB at h
          rw [HE.out] at h
          have h4 := unq_far h
          have := size_list s
          by_cases h5 : k + 2 < s.size
          · exact h5
          · exact absurd (List.drop_of_length_le (by omega)) h4
        clear HQ HD HR c2
        go_wp2_with (at_builtin; refine wpList_append_byteR _ rfl (.tmp 39) (.tmp 43) rfl (w.heap.size + 1) _ acc _ s[k + 1] rfl rfl HO.out rfl (by omega) hz ?_; intro v2 w2 HO2 hb2 hz2)
        go_roundw
        case rel => exact ⟨k + 2, acc ++ [s[k + 1]], hk2, by simp; omega, by go_num, HO2, HE.out, hb.trans hb2⟩
        case measure => simp [intOf]; omega
      · have e2 : ((s[k].toNat : Int) == 92) = false := by simpa using c2
        have c1 : ¬ (s[k].toNat : Int) = 34 := by
          intro c1
          have h := HR.out
          rw [HD.out, unq_end _ _ _ c1] at h
          have := size_list s
          simp at h
          omega
        have HE : Hid (unqT s.data.toList = unq (acc ++ [s[k]]) (s.data.toList.drop (k + 1))) := by
          show _ = _
          rw [HQ.out, HD.out, unq_take _ _ _ c1 c2]
        clear HQ HD HR c2 c1
        go_wp2_with (at_builtin; refine wpList_append_byteR _ rfl (.tmp 39) (.tmp 43) rfl (w.heap.size + 1) _ acc _ s[k] rfl rfl HO.out rfl (by omega) hz ?_; intro v2 w2 HO2 hb2 hz2)
        go_roundw
        case rel => exact ⟨k + 1, acc ++ [s[k]], by omega, by simp; omega, by go_num, HO2, HE.out, hb.trans hb2⟩
        case measure => simp [intOf]; omega
    · have g0 : ¬ (k : Int) < (s.size : Int) - 1 := by omega
      have HE : Hid ((⟨acc.toArray⟩ : ByteArray) = unqS s) := by
        show _ = _
        unfold unqS
        rw [HQ.out, unq_last HR.out (by have := size_list s; rw [List.length_drop]; omega)]
      have hcv := HO.out.text
      obtain ⟨hzz, p0, p1, f0, f1, kb⟩ := text_room hb
      generalize (⟨acc.toArray⟩ : ByteArray) = r at *
      obtain ⟨q0, q1⟩ := two_set (v0 := .int .i64 0) (v1 := .string r) p0 p1
      clear HQ HD HR
      go_wp2_with fail
      exact bodyPost_ret (v := .agg #[.int .i64 0, .string r]) (by simp [results, Tryd.results151, go_sem, q0, q1]) rfl ⟨by rw [HE.out], (kb.setCell (Nat.le_refl _) _).setCell (Nat.le_refl _) _⟩
end Go.Proofs.YtibomkcbopkpkaaDoor
