/-
  What itemOf answers.
-/
import Derived.Test.YtibomkcbopkpkaaDoorCutEq
import Derived.Test.YtibomkcbopkpkaaDoorItemSpec
import Derived.Test.YtibomkcbopkpkaaDoorUnquoteImpl
import Derived.Test.YtibomkcbopkpkaaDoorWordLaid
import Derived.Test.YtibomkcbopkpkaaDoorStrRow
namespace Go.Proofs.YtibomkcbopkpkaaDoor
open Go.ChangeShapes Go.WideShapes Go.ChangeAt Go.RowKit
def ItemOfRes (s : ByteArray) (e : Ending) : Prop := ∃ (r : Rec) (c : Int), e = .returned (.tuple #[.agg #[.string r.name, .bool r.has, .string r.value], .int .i64 c]) ∧ ((c = 0 ∧ readR s = some r) ∨ (c = 5 ∧ readR s = none))
theorem ItemOfRes.no {s : ByteArray} (n : ByteArray) (h : Bool) (v : ByteArray) (hr : readR s = none) : ItemOfRes s (.returned (.tuple #[.agg #[.string n, .bool h, .string v], .int .i64 5])) := ⟨⟨n, h, v⟩, 5, rfl, .inr ⟨rfl, hr⟩⟩
theorem ItemOfRes.yes {s : ByteArray} {n : ByteArray} {h : Bool} {v : ByteArray} (hr : readR s = some ⟨n, h, v⟩) : ItemOfRes s (.returned (.tuple #[.agg #[.string n, .bool h, .string v], .int .i64 0])) := ⟨⟨n, h, v⟩, 0, rfl, .inl ⟨rfl, hr⟩⟩
/-- Three cells of a block that may be written. -/
structure Three (w : World) (B : Nat) (a b c : Value) : Prop where
  c0 : w.cell? ⟨B, 0, none⟩ = some a
  c1 : w.cell? ⟨B, 1, none⟩ = some b
  c2 : w.cell? ⟨B, 2, none⟩ = some c
  f0 : w.frozen? ⟨B, 0, none⟩ = false
  f1 : w.frozen? ⟨B, 1, none⟩ = false
  f2 : w.frozen? ⟨B, 2, none⟩ = false
theorem Three.keep {w w' : World} {B : Nat} {a b c : Value} (h : Three w B a b c) (hb : Below w.heap.size w w') : Three w' B a b c where
  c0 := by rw [hb.cell (block_lt_of_cell h.c0)]; exact h.c0
  c1 := by rw [hb.cell (block_lt_of_cell h.c1)]; exact h.c1
  c2 := by rw [hb.cell (block_lt_of_cell h.c2)]; exact h.c2
  f0 := by rw [hb.frozen (block_lt_of_cell h.c0)]; exact h.f0
  f1 := by rw [hb.frozen (block_lt_of_cell h.c1)]; exact h.f1
  f2 := by rw [hb.frozen (block_lt_of_cell h.c2)]; exact h.f2
theorem Three.new (w : World) (a b c : Value) (t : TypeId) : Three (w.alloc (.cells #[a, b, c] t)) w.heap.size a b c where
  c0 := by simp
  c1 := by simp
  c2 := by simp
  f0 := by simp
  f1 := by simp
  f2 := by simp
theorem Three.alloc {w : World} {B : Nat} {a b c : Value} (h : Three w B a b c) (o : Obj) : Three (w.alloc o) B a b c := h.keep ((Below.refl _ _).alloc (Nat.le_refl _) _)
theorem Three.lt {w : World} {B : Nat} {a b c : Value} (h : Three w B a b c) : B < w.heap.size := block_lt_of_cell h.c0
theorem put_alloc {w w3 : World} (h : Below w.heap.size w w3) (a b c : Value) (o : Obj) : Below w.heap.size w ((((w3.setCell ⟨w.heap.size, 0, none⟩ a).setCell ⟨w.heap.size, 1, none⟩ b).setCell ⟨w.heap.size, 2, none⟩ c).alloc o) := by
  have k := ((h.setCell (p := ⟨w.heap.size, 0, none⟩) (Nat.le_refl _) a).setCell (p := ⟨w.heap.size, 1, none⟩) (Nat.le_refl _) b).setCell (p := ⟨w.heap.size, 2, none⟩) (Nat.le_refl _) c
  exact k.alloc k.size _
set_option maxRecDepth 100000 in
set_option maxHeartbeats 4000000 in
theorem itemOf_bare (s : ByteArray) (w : World) (hset : SetIs w) (hs : s.size ≤ 1000) (h : ¬ eqAt s.data.toList < s.size) :
    Calls Tryd.prog 125 #[.string s] w fun e w' => ItemOfRes s e ∧ Below w.heap.size w w' := by
  have hle := eqAt_le s.data.toList
  rw [size_list] at hle
  have hk : eqAt s.data.toList = s.size := by omega
  have R1 := @read_noname s
  have R2 := @read_bare s
  rw [hk] at R1 R2
  have ee : s.extract 0 s.size = s := ByteArray.extract_zero_size
  rw [ee] at R1 R2
  have RR : Hid ((wordS s = false → readR s = none) ∧ (wordS s = true → readR s = some ⟨s, false, ⟨#[]⟩⟩)) := ⟨R1, fun h => R2 h rfl⟩
  clear R1 R2
  have HC := fun w => cutS_of s w _ _ _ (cut_no s w h)
  have HCC : Hid (∀ w, Calls Tryd.prog 150 #[.string s, .string ⟨#[61]⟩] w fun e w' => e = .returned (.tuple #[.string s, .string ⟨#[]⟩, .bool false]) ∧ Below w.heap.size w w') := HC
  have HS : Hid (SetIs w) := hset
  clear hle hk HC hset ee h
  have T0 : Hid (Three (w.alloc (.cells #[.string ⟨#[]⟩, .bool false, .string ⟨#[]⟩] 80)) w.heap.size (.string ⟨#[]⟩) (.bool false) (.string ⟨#[]⟩)) := Three.new w _ _ _ _
  have KB0 : Hid (Below w.heap.size w (w.alloc (.cells #[.string ⟨#[]⟩, .bool false, .string ⟨#[]⟩] 80))) := (Below.refl _ _).alloc (Nat.le_refl _) _
  go_enter Tryd.func125, Tryd.ntmps125
  go_wp2_with fail
  refine (HCC.out _).mono ?_
  rintro e w1 ⟨rfl, hb1⟩
  have T1 : Hid (Three w1 w.heap.size (.string ⟨#[]⟩) (.bool false) (.string ⟨#[]⟩)) := T0.out.keep hb1
  have KB1 : Hid (Below w.heap.size w w1) := KB0.out.trans (hb1.mono KB0.out.size)
  clear hb1 T0 KB0 HCC
  go_wp2_with fail
  refine (implIsWord_set s w1 (HS.out.below KB1.out)).mono ?_
  rintro e w2 ⟨rfl, hb2⟩
  have T2 : Three w2 w.heap.size (.string ⟨#[]⟩) (.bool false) (.string ⟨#[]⟩) := T1.out.keep hb2
  have KB2 : Hid (Below w.heap.size w w2) := KB1.out.trans (hb2.mono KB1.out.size)
  clear hb2 T1 KB1 HS
  obtain ⟨c0, c1, c2, f0, f1, f2⟩ := T2
  cases hw : wordS s
  · have HR : Hid (readR s = none) := RR.out.1 hw
    clear RR hw
    obtain ⟨r0, r1, r2⟩ := three_set (v0 := .string ⟨#[]⟩) (v1 := .bool false) (v2 := .string ⟨#[]⟩) c0 c1 c2
    go_wp2_with fail
    exact bodyPost_ret (v := .tuple #[.agg #[.string ⟨#[]⟩, .bool false, .string ⟨#[]⟩], .int .i64 5]) (by simp [results, Tryd.results125, go_sem, r0, r1, r2]) rfl ⟨ItemOfRes.no _ _ _ HR.out, ((KB2.out.setCell (Nat.le_refl _) _).setCell (Nat.le_refl _) _).setCell (Nat.le_refl _) _⟩
  · have HR : Hid (readR s = some ⟨s, false, ⟨#[]⟩⟩) := RR.out.2 hw
    have T2 : Hid (Three w2 w.heap.size (.string ⟨#[]⟩) (.bool false) (.string ⟨#[]⟩)) := ⟨c0, c1, c2, f0, f1, f2⟩
    clear RR hw c0 c1 c2 f0 f1 f2
    go_wp2_with fail
    refine (clone_text s w2 (by omega)).mono ?_
    rintro e w3 ⟨rfl, hb3⟩
    have T3 : Three w3 w.heap.size (.string ⟨#[]⟩) (.bool false) (.string ⟨#[]⟩) := T2.out.keep hb3
    have KB3 : Hid (Below w.heap.size w w3) := KB2.out.trans (hb3.mono KB2.out.size)
    have hlt := T3.lt
    obtain ⟨r0, r1, r2⟩ := three_set (v0 := .string s) (v1 := .bool false) (v2 := .string ⟨#[]⟩) T3.c0 T3.c1 T3.c2
    have r0 := f_keepA (.cells #[.string s, .bool false, .string ⟨#[]⟩] 80) r0
    have r1 := f_keepA (.cells #[.string s, .bool false, .string ⟨#[]⟩] 80) r1
    have r2 := f_keepA (.cells #[.string s, .bool false, .string ⟨#[]⟩] 80) r2
    obtain ⟨c0, c1, c2, f0, f1, f2⟩ := T3
    clear hb3 T2 KB2
    go_wp2_with fail
    exact bodyPost_ret (v := .tuple #[.agg #[.string s, .bool false, .string ⟨#[]⟩], .int .i64 0]) (by simp [results, Tryd.results125, go_sem, r0, r1, r2]) rfl ⟨ItemOfRes.yes HR.out, put_alloc KB3.out _ _ _ _⟩
end Go.Proofs.YtibomkcbopkpkaaDoor
