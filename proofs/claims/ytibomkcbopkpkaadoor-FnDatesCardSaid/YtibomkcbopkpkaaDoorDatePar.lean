/-
  Plain: what a date's text is read as.
-/
import Derived.Test.YtibomkcbopkpkaaDoorDateText
import Derived.Test.YtibomkcbopkpkaaDoorDigits
namespace Go.Proofs.YtibomkcbopkpkaaDoor
def parS (s : ByteArray) (m : Int) : Int := secsD (numD (s.extract 12 16)) m (numD (s.extract 5 7)) (numD (s.extract 17 19)) (numD (s.extract 20 22)) (numD (s.extract 23 25))
def parB (s : ByteArray) (m : Int) : Bool := dateB (numD (s.extract 12 16)) m (numD (s.extract 5 7)) (numD (s.extract 17 19)) (numD (s.extract 20 22)) (numD (s.extract 23 25))
/-- The text is the text of a date of month m. -/
structure Cand (s : ByteArray) (m : Int) : Prop where
  m0 : 1 ≤ m
  m1 : m ≤ 12
  mon : moT m = s.extract 8 11
  ok : parB s m = true
  same : fmtT (parS s m) = s
theorem moT_inj {a b : Int} (a0 : 1 ≤ a) (a1 : a ≤ 12) (b0 : 1 ≤ b) (b1 : b ≤ 12) (h : moT a = moT b) : a = b := by
  rcases months a0 a1 with rfl | rfl | rfl | rfl | rfl | rfl | rfl | rfl | rfl | rfl | rfl | rfl <;>
  rcases months b0 b1 with rfl | rfl | rfl | rfl | rfl | rfl | rfl | rfl | rfl | rfl | rfl | rfl <;>
  first | rfl | exact absurd h (by decide)
open Classical in
noncomputable def parI (s : ByteArray) : Int := if h : s.size = 29 ∧ ∃ m, Cand s m then parS s h.2.choose else -1
theorem parI_yes {s : ByteArray} {m : Int} (hz : s.size = 29) (h : Cand s m) : parI s = parS s m := by
  have hh : s.size = 29 ∧ ∃ m, Cand s m := ⟨hz, m, h⟩
  unfold parI
  rw [dif_pos hh]
  have hc := hh.2.choose_spec
  rw [moT_inj hc.m0 hc.m1 h.m0 h.m1 (hc.mon.trans h.mon.symm)]
theorem parI_no {s : ByteArray} (h : s.size = 29 → ∀ m, ¬ Cand s m) : parI s = -1 := by
  unfold parI
  rw [dif_neg]
  rintro ⟨hz, m, hm⟩
  exact h hz m hm
theorem Cand.bd {s : ByteArray} {m : Int} (h : Cand s m) : 0 ≤ parS s m ∧ parS s m ≤ 253402300799 := secsD_bd (dateB_yes h.ok)
noncomputable def pdC (s : ByteArray) : Int := if parI s < 0 then 5 else 0
noncomputable def pdV (s : ByteArray) : Int := if parI s < 0 then 0 else parI s
theorem pd_yes {s : ByteArray} {m : Int} (hz : s.size = 29) (h : Cand s m) : pdC s = 0 ∧ pdV s = parS s m := by
  have e := parI_yes hz h
  have b := h.bd
  unfold pdC pdV
  rw [e, if_neg (by omega), if_neg (by omega)]
  exact ⟨rfl, rfl⟩
theorem pd_no {s : ByteArray} (h : s.size = 29 → ∀ m, ¬ Cand s m) : pdC s = 5 ∧ pdV s = 0 := by
  have e := parI_no h
  unfold pdC pdV
  rw [e, if_pos (by omega), if_pos (by omega)]
  exact ⟨rfl, rfl⟩
theorem pd_or (s : ByteArray) : (s.size = 29 ∧ ∃ m, Cand s m) ∨ (s.size = 29 → ∀ m, ¬ Cand s m) := by
  by_cases h : s.size = 29 ∧ ∃ m, Cand s m
  · exact .inl h
  · exact .inr fun hz m hm => h ⟨hz, m, hm⟩
end Go.Proofs.YtibomkcbopkpkaaDoor
