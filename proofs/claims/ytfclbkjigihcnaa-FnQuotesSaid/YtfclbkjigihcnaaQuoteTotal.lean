/-
  What the model's QuoteText and UnquoteText answer, at every text.
-/
import Derived.Test.YtfclbkjigihcnaaUnquoteSpec
namespace Go.Proofs.Ytfclbkjigihcnaa
open Go.ChangeShapes Go.WideShapes Go.ChangeAt Go.RowKit
theorem quoteT_size (s : ByteArray) : (quoteT s).size ≤ 2 * s.size + 2 ∧ s.size + 2 ≤ (quoteT s).size := by
  have h1 := quoteB_len s.data.toList
  have h2 := quoteB_ge s.data.toList
  have e : (quoteT s).size = (quoteB s.data.toList).length + 2 := by simp [quoteT, quoteL, ByteArray.size]
  rw [e]
  simp only [Array.length_toList] at h1 h2
  have e2 : s.data.size = s.size := rfl
  omega
/-- A function of one text that answers a TextResult. -/
def TextFn (f : FuncId) (C : ByteArray → Int) (T : ByteArray → ByteArray) : Prop := ∀ s w, Calls Try.prog f #[.string s] w fun e w' => e = .returned (.agg #[.int .i64 (C s), .string (T s)]) ∧ Below w.heap.size w w'
def qC (s : ByteArray) : Int := if 1000 < s.size then 2 else if plainL s.data.toList = true then 0 else 5
def qT (s : ByteArray) : ByteArray := if qC s = 0 then quoteT s else ⟨#[]⟩
def uC (s : ByteArray) : Int := if 2002 < s.size then 2 else if unqB s = true then 0 else 5
def uT (s : ByteArray) : ByteArray := if uC s = 0 then unqS s else ⟨#[]⟩
theorem specQuote_fn : TextFn 9 qC qT := by
  intro s w
  by_cases h : 1000 < s.size
  · have e : qC s = 2 := by simp [qC, h]
    rw [show qT s = ⟨#[]⟩ from by simp [qT, e], e]
    exact specQuote_long s w h
  · cases hp : plainL s.data.toList
    · have e : qC s = 5 := by simp [qC, h, hp]
      rw [show qT s = ⟨#[]⟩ from by simp [qT, e], e]
      exact specQuote_bad s w (by omega) hp
    · have e : qC s = 0 := by simp [qC, h, hp]
      rw [show qT s = quoteT s from by simp [qT, e], e]
      exact specQuote_any s w (by omega) hp
theorem specUnquote_fn : TextFn 10 uC uT := by
  intro s w
  by_cases h : 2002 < s.size
  · have e : uC s = 2 := by simp [uC, h]
    rw [show uT s = ⟨#[]⟩ from by simp [uT, e], e]
    exact specUnquote_long s w h
  · cases hp : unqB s
    · have e : uC s = 5 := by simp [uC, h, hp]
      rw [show uT s = ⟨#[]⟩ from by simp [uT, e], e]
      exact specUnquote_bad s w (by omega) hp
    · have e : uC s = 0 := by simp [uC, h, hp]
      rw [show uT s = unqS s from by simp [uT, e], e]
      exact specUnquote_any s w (by omega) hp
theorem uC_quote (t : ByteArray) (h : qC t = 0) : uC (qT t) = 0 ∧ uT (qT t) = t ∧ t.size + 2 ≤ (qT t).size := by
  have e : qT t = quoteT t := by simp [qT, h]
  have h1 : ¬ 1000 < t.size := fun hh => by simp [qC, hh] at h
  have h2 : plainL t.data.toList = true := by
    cases hp : plainL t.data.toList
    · simp [qC, h1, hp] at h
    · rfl
  obtain ⟨z1, z2⟩ := quoteT_size t
  have hu : unqT (quoteT t).data.toList = (t.data.toList, true) := by
    rw [show (quoteT t).data.toList = quoteL t.data.toList from by simp [quoteT]]
    exact unqT_quote _ h2
  have hb : unqB (quoteT t) = true := by unfold unqB; rw [hu]
  have hs : unqS (quoteT t) = t := by unfold unqS; rw [hu]
  rw [e]
  have hc : uC (quoteT t) = 0 := by simp [uC, hb]; omega
  exact ⟨hc, by simp [uT, hc, hs], z2⟩
end Go.Proofs.Ytfclbkjigihcnaa
