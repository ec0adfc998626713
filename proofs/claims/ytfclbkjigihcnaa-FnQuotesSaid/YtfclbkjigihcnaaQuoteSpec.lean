/-
  What the model's QuoteText answers.
-/
import Derived.Test.YtfclbkjigihcnaaQuoteBase
namespace Go.Proofs.Ytfclbkjigihcnaa
open Go.ChangeShapes Go.WideShapes Go.ChangeAt Go.RowKit
set_option maxHeartbeats 400000 in
theorem specQuote_long (s : ByteArray) (w : World) (h : 1000 < s.size) :
    Calls Try.prog 9 #[.string s] w fun e w' => e = .returned (.agg #[.int .i64 2, .string ⟨#[]⟩]) ∧ Below w.heap.size w w' := by
  have hh : (1000 : Int) < s.size := by omega
  go_enter Try.func9, Try.ntmps9
  go_wp2
  exact bodyPost_ret (v := .agg #[.int .i64 2, .string ⟨#[]⟩]) (by simp [results, Try.results9, go_sem]) rfl ⟨rfl, (Below.refl _ _).alloc (Nat.le_refl _) _⟩
set_option maxHeartbeats 400000 in
theorem specQuote_bad (s : ByteArray) (w : World) (hs : s.size ≤ 1000) (hp : plainL s.data.toList = false) :
    Calls Try.prog 9 #[.string s] w fun e w' => e = .returned (.agg #[.int .i64 5, .string ⟨#[]⟩]) ∧ Below w.heap.size w w' := by
  have hh : ¬ (1000 : Int) < s.size := by omega
  have HP : Hid (plainL s.data.toList = false) := hp
  clear hp
  go_enter Try.func9, Try.ntmps9
  go_wp2_with fail
  refine (plainText_any s _ (by omega)).mono ?_
  rintro e w1 ⟨rfl, rfl⟩
  rw [HP.out]
  go_wp2
  exact bodyPost_ret (v := .agg #[.int .i64 5, .string ⟨#[]⟩]) (by simp [results, Try.results9, go_sem]) rfl ⟨rfl, (Below.refl _ _).alloc (Nat.le_refl _) _⟩
set_option maxHeartbeats 400000 in
theorem specQuote_any (s : ByteArray) (w : World) (hs : s.size ≤ 1000) (hp : plainL s.data.toList = true) :
    Calls Try.prog 9 #[.string s] w fun e w' => e = .returned (.agg #[.int .i64 0, .string (quoteT s)]) ∧ Below w.heap.size w w' := by
  have hh : ¬ (1000 : Int) < s.size := by omega
  have HP : Hid (plainL s.data.toList = true) := hp
  clear hp
  go_enter Try.func9, Try.ntmps9
  go_wp2_with fail
  refine (plainText_any s _ (by omega)).mono ?_
  rintro e w1 ⟨rfl, rfl⟩
  rw [HP.out]
  go_wp2_with fail
  refine (l2Quote_any s _ (by omega)).mono ?_
  rintro e w1 ⟨rfl, hb⟩
  simp only [World.size_alloc] at hb
  have hz := hb.size
  simp only [World.size_alloc] at hz
  have p0 : w1.cell? ⟨w.heap.size, 0, none⟩ = some (.int .i64 0) := by rw [hb.cell (p := ⟨w.heap.size, 0, none⟩) (Nat.lt_succ_self _)]; simp
  have p1 : w1.cell? ⟨w.heap.size, 1, none⟩ = some (.string ⟨#[]⟩) := by rw [hb.cell (p := ⟨w.heap.size, 1, none⟩) (Nat.lt_succ_self _)]; simp
  have f0 : w1.frozen? ⟨w.heap.size, 0, none⟩ = false := by rw [hb.frozen (p := ⟨w.heap.size, 0, none⟩) (Nat.lt_succ_self _)]; simp
  have f1 : w1.frozen? ⟨w.heap.size, 1, none⟩ = false := by rw [hb.frozen (p := ⟨w.heap.size, 1, none⟩) (Nat.lt_succ_self _)]; simp
  generalize hr : quoteT s = r
  have HL : Hid (r = quoteT s) := hr.symm
  clear hr
  obtain ⟨q0, q1⟩ := two_set (v0 := .int .i64 0) (v1 := .string r) p0 p1
  go_wp2
  have kb : Below w.heap.size w w1 := ((Below.refl _ _).alloc (Nat.le_refl _) _).trans (hb.mono (Nat.le_succ _))
  exact bodyPost_ret (v := .agg #[.int .i64 0, .string r]) (by simp [results, Try.results9, go_sem, q0, q1]) rfl ⟨by rw [HL.out], (kb.setCell (Nat.le_refl _) _).setCell (Nat.le_refl _) _⟩
end Go.Proofs.Ytfclbkjigihcnaa
