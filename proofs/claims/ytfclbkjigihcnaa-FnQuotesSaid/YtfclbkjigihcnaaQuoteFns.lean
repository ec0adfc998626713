/-
  What QuoteText and UnquoteText answer, at every text.
-/
import Derived.Test.YtfclbkjigihcnaaQuoteImpl
import Derived.Test.YtfclbkjigihcnaaUnquoteImpl
import Derived.Test.YtfclbkjigihcnaaQuoteTotal
namespace Go.Proofs.Ytfclbkjigihcnaa
open Go.ChangeShapes Go.WideShapes Go.ChangeAt Go.RowKit
theorem implQuote_fn : TextFn 6 qC qT := by
  intro s w
  by_cases h : 1000 < s.size
  · have e : qC s = 2 := by simp [qC, h]
    rw [show qT s = ⟨#[]⟩ from by simp [qT, e], e]
    exact implQuote_long s w h
  · cases hp : plainL s.data.toList
    · have e : qC s = 5 := by simp [qC, h, hp]
      rw [show qT s = ⟨#[]⟩ from by simp [qT, e], e]
      exact implQuote_bad s w (by omega) hp
    · have e : qC s = 0 := by simp [qC, h, hp]
      rw [show qT s = quoteT s from by simp [qT, e], e]
      exact implQuote_any s w (by omega) hp
theorem implUnquote_fn : TextFn 8 uC uT := by
  intro s w
  by_cases h : 2002 < s.size
  · have e : uC s = 2 := by simp [uC, h]
    rw [show uT s = ⟨#[]⟩ from by simp [uT, e], e]
    exact implUnquote_long s w h
  · cases hp : unqB s
    · have e : uC s = 5 := by simp [uC, h, hp]
      rw [show uT s = ⟨#[]⟩ from by simp [uT, e], e]
      exact implUnquote_bad s w (by omega) hp
    · have e : uC s = 0 := by simp [uC, h, hp]
      rw [show uT s = unqS s from by simp [uT, e], e]
      exact implUnquote_any s w (by omega) hp
end Go.Proofs.Ytfclbkjigihcnaa
