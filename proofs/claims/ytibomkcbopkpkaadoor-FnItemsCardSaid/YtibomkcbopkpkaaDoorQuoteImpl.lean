/-
  What QuoteText answers.
-/
import Derived.Test.YtibomkcbopkpkaaDoorPlainImpl
import Derived.Test.YtibomkcbopkpkaaDoorQuoteBase
import Derived.Test.YtibomkcbopkpkaaDoorTextRoom
namespace Go.Proofs.YtibomkcbopkpkaaDoor
open Go.ChangeShapes Go.WideShapes Go.ChangeAt Go.RowKit
set_option maxHeartbeats 400000 in
theorem implQuote_long (s : ByteArray) (w : World) (h : 1000 < s.size) :
    Calls Tryd.prog 119 #[.string s] w fun e w' => e = .returned (.agg #[.int .i64 2, .string ⟨#[]⟩]) ∧ Below w.heap.size w w' := by
  have hh : (1000 : Int) < s.size := by omega
  go_enter Tryd.func119, Tryd.ntmps119
  go_wp2
  exact bodyPost_ret (v := .agg #[.int .i64 2, .string ⟨#[]⟩]) (by simp [results, Tryd.results119, go_sem]) rfl ⟨rfl, (Below.refl _ _).alloc (Nat.le_refl _) _⟩
set_option maxHeartbeats 400000 in
theorem implQuote_bad (s : ByteArray) (w : World) (hs : s.size ≤ 1000) (hp : plainL s.data.toList = false) :
    Calls Tryd.prog 119 #[.string s] w fun e w' => e = .returned (.agg #[.int .i64 5, .string ⟨#[]⟩]) ∧ Below w.heap.size w w' := by
  have hh : ¬ (1000 : Int) < s.size := by omega
  have HP : Hid (plainL s.data.toList = false) := hp
  clear hp
  go_enter Tryd.func119, Tryd.ntmps119
  go_wp2_with fail
  refine (allPlain_any s _ (by omega)).mono ?_
  rintro e w1 ⟨rfl, rfl⟩
  rw [HP.out]
  go_wp2
  exact bodyPost_ret (v := .agg #[.int .i64 5, .string ⟨#[]⟩]) (by simp [results, Tryd.results119, go_sem]) rfl ⟨rfl, (Below.refl _ _).alloc (Nat.le_refl _) _⟩
set_option maxHeartbeats 4000000 in
theorem implQuote_any (s : ByteArray) (w : World) (hs : s.size ≤ 1000) (hp : plainL s.data.toList = true) :
    Calls Tryd.prog 119 #[.string s] w fun e w' => e = .returned (.agg #[.int .i64 0, .string (quoteT s)]) ∧ Below w.heap.size w w' := by
  have hh : ¬ (1000 : Int) < s.size := by omega
  have HP : Hid (plainL s.data.toList = true) := hp
  clear hp
  go_enter Tryd.func119, Tryd.ntmps119
  go_wp2_with fail
  refine (allPlain_any s _ (by omega)).mono ?_
  rintro e w1 ⟨rfl, rfl⟩
  rw [HP.out]
  clear HP
  go_wp2
  go_loopw [3, 16] (fun v i wr => ∃ k : Nat, k ≤ s.size ∧ i = .int .i64 k ∧ OwnB wr (w.heap.size + 1) v ([34] ++ quoteB (s.data.toList.take k)) ∧ Below (w.heap.size + 1) (w.alloc (.cells #[.int .i64 0, .string ⟨#[]⟩] 26)) wr) (fun _ i _ => s.size - (intOf i).toNat)
  case atStart => exact ⟨0, Nat.zero_le _, rfl, by have := OwnB.made (w.alloc (.cells #[.int .i64 0, .string ⟨#[]⟩] 26)) (w.heap.size + 1) (by simp) [34] (by decide); rw [World.size_alloc] at this; exact this, (Below.refl _ _).alloc (by simp) _⟩
  case round =>
    obtain ⟨k, hk, rfl, hown, hb⟩ := hrel
    have HO : Hid (OwnB wr (w.heap.size + 1) u3 ([34] ++ quoteB (s.data.toList.take k))) := hown
    have hz : w.heap.size + 1 ≤ wr.heap.size := by have := hb.size; rwa [World.size_alloc] at this
    have hlen : ([34] ++ quoteB (s.data.toList.take k)).length ≤ 5000 := by
      have := quoteB_len (s.data.toList.take k)
      simp only [List.length_append, List.length_cons, List.length_nil, List.length_take] at this ⊢
      omega
    clear hown
    by_cases hlt : k < s.size
    · have HS : Hid (s.data.toList.take (k + 1) = s.data.toList.take k ++ [s[k]]) := take_snoc s k hlt
      by_cases hq : (s[k].toNat : Int) = 34 ∨ (s[k].toNat : Int) = 92
      · have HE : Hid ([34] ++ quoteB (s.data.toList.take (k + 1)) = [34] ++ quoteB (s.data.toList.take k) ++ [92] ++ [s[k]]) := by
          show _ = _
          rw [HS.out, quoteB_snoc, quoteC_yes hq]; simp
        generalize [34] ++ quoteB (s.data.toList.take k) = L at *
        by_cases q1 : (s[k].toNat : Int) = 34
        · have g1 : ((s[k].toNat : Int) == 34) = true := by simpa using q1
          clear hq q1
          go_wp2_with (first
            | (at_builtin; refine wpList_append_byte _ rfl (.tmp 29) (.tmp 30) rfl (w.heap.size + 1) _ L 92 92 rfl rfl HO.out rfl (by omega) hz ?_; intro v1 w1 HO1 hb1 hz1)
            | (at_builtin; refine wpList_append_byte _ rfl (.tmp 32) (.tmp 36) rfl (w.heap.size + 1) _ (L ++ [92]) _ s[k] rfl rfl HO1 rfl (by simp; omega) (by omega) ?_; intro v2 w2 HO2 hb2 hz2))
          go_roundw
          case rel => exact ⟨k + 1, by omega, by go_num, by rw [HE.out]; exact HO2, hb.trans (hb1.trans hb2)⟩
          case measure => simp [intOf]; omega
        · have g1 : ((s[k].toNat : Int) == 34) = false := by simpa using q1
          have g2 : ((s[k].toNat : Int) == 92) = true := by simp; omega
          clear hq q1
          go_wp2_with (first
            | (at_builtin; refine wpList_append_byte _ rfl (.tmp 29) (.tmp 30) rfl (w.heap.size + 1) _ L 92 92 rfl rfl HO.out rfl (by omega) hz ?_; intro v1 w1 HO1 hb1 hz1)
            | (at_builtin; refine wpList_append_byte _ rfl (.tmp 32) (.tmp 36) rfl (w.heap.size + 1) _ (L ++ [92]) _ s[k] rfl rfl HO1 rfl (by simp; omega) (by omega) ?_; intro v2 w2 HO2 hb2 hz2))
          go_roundw
          case rel => exact ⟨k + 1, by omega, by go_num, by rw [HE.out]; exact HO2, hb.trans (hb1.trans hb2)⟩
          case measure => simp [intOf]; omega
      · have HE : Hid ([34] ++ quoteB (s.data.toList.take (k + 1)) = [34] ++ quoteB (s.data.toList.take k) ++ [s[k]]) := by
          show _ = _
          rw [HS.out, quoteB_snoc, quoteC_no hq]; simp
        generalize [34] ++ quoteB (s.data.toList.take k) = L at *
        have g1 : ((s[k].toNat : Int) == 34) = false := by simp; omega
        have g2 : ((s[k].toNat : Int) == 92) = false := by simp; omega
        clear hq
        go_wp2_with (at_builtin; refine wpList_append_byte _ rfl (.tmp 32) (.tmp 36) rfl (w.heap.size + 1) _ L _ s[k] rfl rfl HO.out rfl (by omega) hz ?_; intro v2 w2 HO2 hb2 hz2)
        go_roundw
        case rel => exact ⟨k + 1, by omega, by go_num, by rw [HE.out]; exact HO2, hb.trans hb2⟩
        case measure => simp [intOf]; omega
    · have ek : s.data.toList.take k = s.data.toList := List.take_of_length_le (by simp; omega)
      rw [ek] at hlen HO
      have HE : Hid ((⟨([34] ++ quoteB s.data.toList ++ [34]).toArray⟩ : ByteArray) = quoteT s) := rfl
      generalize [34] ++ quoteB s.data.toList = L at *
      clear ek
      go_wp2_with (at_builtin; refine wpList_append_byte _ rfl (.tmp 39) (.tmp 40) rfl (w.heap.size + 1) _ L 34 34 rfl rfl HO.out rfl (by omega) hz ?_; intro v1 w1 HO1 hb1 hz1; have hcv := HO1.text; obtain ⟨hzz, p0, p1, f0, f1, kb⟩ := text_room (hb.trans hb1); obtain ⟨q0, q1⟩ := two_set (v0 := .int .i64 0) (v1 := .string (⟨(L ++ [34]).toArray⟩ : ByteArray)) p0 p1)
      exact bodyPost_ret (v := .agg #[.int .i64 0, .string (⟨(L ++ [34]).toArray⟩ : ByteArray)]) (by simp [results, Tryd.results119, go_sem, q0, q1]) rfl ⟨by rw [HE.out], (kb.setCell (Nat.le_refl _) _).setCell (Nat.le_refl _) _⟩
end Go.Proofs.YtibomkcbopkpkaaDoor
