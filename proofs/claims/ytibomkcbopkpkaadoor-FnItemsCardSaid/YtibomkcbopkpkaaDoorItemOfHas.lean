/-
  What itemOf answers where there is a sign of equality; at every piece.
-/
import Derived.Test.YtibomkcbopkpkaaDoorItemOf
namespace Go.Proofs.YtibomkcbopkpkaaDoor
open Go.ChangeShapes Go.WideShapes Go.ChangeAt Go.RowKit
theorem ext_size (s : ByteArray) (i j : Nat) (hs : s.size ≤ 1000) : (s.extract i j).size ≤ 1000 := by simp; omega
theorem put4 {w w3 : World} {B : Nat} (h : Below w.heap.size w w3) (hB : w.heap.size ≤ B) (u a b c : Value) : Below w.heap.size w ((((w3.setCell ⟨B, 2, none⟩ u).setCell ⟨w.heap.size, 0, none⟩ a).setCell ⟨w.heap.size, 1, none⟩ b).setCell ⟨w.heap.size, 2, none⟩ c) :=
  (((h.setCell (p := ⟨B, 2, none⟩) hB u).setCell (p := ⟨w.heap.size, 0, none⟩) (Nat.le_refl _) a).setCell (p := ⟨w.heap.size, 1, none⟩) (Nat.le_refl _) b).setCell (p := ⟨w.heap.size, 2, none⟩) (Nat.le_refl _) c
set_option maxRecDepth 100000 in
set_option maxHeartbeats 8000000 in
theorem itemOf_has (s : ByteArray) (w : World) (hset : SetIs w) (hs : s.size ≤ 1000) (h : eqAt s.data.toList < s.size) :
    Calls Tryd.prog 125 #[.string s] w fun e w' => ItemOfRes s e ∧ Below w.heap.size w w' := by
  have hne : eqAt s.data.toList ≠ s.size := by omega
  have R1 := @read_noname s
  have R3 := fun a => @read_word s a hne
  have R4 := fun a => @read_quote s a hne
  have R5 := fun a => @read_bad s a hne
  have HC := fun w => cutS_of s w _ _ _ (cut_yes s w hs h)
  have hnz := ext_size s 0 (eqAt s.data.toList) hs
  have hrz := ext_size s (eqAt s.data.toList + 1) s.size hs
  generalize s.extract 0 (eqAt s.data.toList) = nm at *
  generalize s.extract (eqAt s.data.toList + 1) s.size = rs at *
  have RR : Hid ((wordS nm = false → readR s = none) ∧ (wordS nm = true → wordS rs = true → readR s = some ⟨nm, true, rs⟩) ∧ (wordS nm = true → wordS rs = false → unqB rs = true → readR s = some ⟨nm, true, unqS rs⟩) ∧ (wordS nm = true → wordS rs = false → unqB rs = false → readR s = none)) := ⟨R1, R3, R4, R5⟩
  have HCC : Hid (∀ w, Calls Tryd.prog 150 #[.string s, .string ⟨#[61]⟩] w fun e w' => e = .returned (.tuple #[.string nm, .string rs, .bool true]) ∧ Below w.heap.size w w') := HC
  have HS : Hid (SetIs w) := hset
  clear R1 R3 R4 R5 HC hset h hne
  have T0 : Hid (Three (w.alloc (.cells #[.string ⟨#[]⟩, .bool false, .string ⟨#[]⟩] 80)) w.heap.size (.string ⟨#[]⟩) (.bool false) (.string ⟨#[]⟩)) := Three.new w _ _ _ _
  have KB0 : Hid (Below w.heap.size w (w.alloc (.cells #[.string ⟨#[]⟩, .bool false, .string ⟨#[]⟩] 80))) := (Below.refl _ _).alloc (Nat.le_refl _) _
  go_enter Tryd.func125, Tryd.ntmps125
  go_wp2_with fail
  refine (HCC.out _).mono ?_
  rintro e w1 ⟨rfl, hb1⟩
  have T1 : Hid (Three w1 w.heap.size (.string ⟨#[]⟩) (.bool false) (.string ⟨#[]⟩)) := T0.out.keep hb1
  have KB1 : Hid (Below w.heap.size w w1) := KB0.out.trans (hb1.mono KB0.out.size)
  clear hb1 T0 KB0 HCC
  go_wp2_with fail
  refine (implIsWord_set nm w1 (HS.out.below KB1.out)).mono ?_
  rintro e w2 ⟨rfl, hb2⟩
  have T2 : Hid (Three w2 w.heap.size (.string ⟨#[]⟩) (.bool false) (.string ⟨#[]⟩)) := T1.out.keep hb2
  have KB2 : Hid (Below w.heap.size w w2) := KB1.out.trans (hb2.mono KB1.out.size)
  clear hb2 T1 KB1
  cases hw : wordS nm
  · have HR : Hid (readR s = none) := RR.out.1 hw
    clear RR hw HS
    obtain ⟨c0, c1, c2, f0, f1, f2⟩ := T2.out
    obtain ⟨r0, r1, r2⟩ := three_set (v0 := .string ⟨#[]⟩) (v1 := .bool false) (v2 := .string ⟨#[]⟩) c0 c1 c2
    go_wp2_with fail
    exact bodyPost_ret (v := .tuple #[.agg #[.string ⟨#[]⟩, .bool false, .string ⟨#[]⟩], .int .i64 5]) (by simp [results, Tryd.results125, go_sem, r0, r1, r2]) rfl ⟨ItemOfRes.no _ _ _ HR.out, ((KB2.out.setCell (Nat.le_refl _) _).setCell (Nat.le_refl _) _).setCell (Nat.le_refl _) _⟩
  have R2 : Hid ((wordS rs = true → readR s = some ⟨nm, true, rs⟩) ∧ (wordS rs = false → unqB rs = true → readR s = some ⟨nm, true, unqS rs⟩) ∧ (wordS rs = false → unqB rs = false → readR s = none)) := ⟨RR.out.2.1 hw, RR.out.2.2.1 hw, RR.out.2.2.2 hw⟩
  clear RR hw
  go_wp2_with fail
  refine (clone_text nm w2 (by omega)).mono ?_
  rintro e w3 ⟨rfl, hb3⟩
  have T3 : Hid (Three w3 w.heap.size (.string ⟨#[]⟩) (.bool false) (.string ⟨#[]⟩)) := T2.out.keep hb3
  have KB3 : Hid (Below w.heap.size w w3) := KB2.out.trans (hb3.mono KB2.out.size)
  have S4 : Hid (SetIs (w3.alloc (.cells #[.string nm, .bool true, .string ⟨#[]⟩] 80))) := (HS.out.below KB3.out).below ((Below.refl _ _).alloc (Nat.le_refl _) _)
  have T4 : Hid (Three (w3.alloc (.cells #[.string nm, .bool true, .string ⟨#[]⟩] 80)) w.heap.size (.string ⟨#[]⟩) (.bool false) (.string ⟨#[]⟩)) := T3.out.alloc _
  have U4 : Hid (Three (w3.alloc (.cells #[.string nm, .bool true, .string ⟨#[]⟩] 80)) w3.heap.size (.string nm) (.bool true) (.string ⟨#[]⟩)) := Three.new w3 _ _ _ _
  have KB4 : Hid (Below w.heap.size w (w3.alloc (.cells #[.string nm, .bool true, .string ⟨#[]⟩] 80))) := KB3.out.alloc KB3.out.size _
  have hBB : w.heap.size < w3.heap.size := T3.out.lt
  clear hb3 T2 KB2 T3 KB3 HS
  go_wp2_with fail
  refine (implIsWord_set rs _ S4.out).mono ?_
  rintro e w5 ⟨rfl, hb5⟩
  have T5 : Hid (Three w5 w.heap.size (.string ⟨#[]⟩) (.bool false) (.string ⟨#[]⟩)) := T4.out.keep hb5
  have U5 : Hid (Three w5 w3.heap.size (.string nm) (.bool true) (.string ⟨#[]⟩)) := U4.out.keep hb5
  have KB5 : Hid (Below w.heap.size w w5) := KB4.out.trans (hb5.mono KB4.out.size)
  clear hb5 T4 U4 KB4 S4
  generalize w3.heap.size = B1 at *
  clear w3
  have hBn : w.heap.size ≠ B1 := by omega
  cases hv : wordS rs
  · have R3 : Hid ((unqB rs = true → readR s = some ⟨nm, true, unqS rs⟩) ∧ (unqB rs = false → readR s = none)) := ⟨R2.out.2.1 hv, R2.out.2.2 hv⟩
    clear R2 hv
    cases hu : unqB rs
    · have HR : Hid (readR s = none) := R3.out.2 hu
      have HU : Hid (Calls Tryd.prog 151 #[.string rs] w5 fun e w' => e = .returned (.agg #[.int .i64 5, .string ⟨#[]⟩]) ∧ Below w5.heap.size w5 w') := implUnquote_bad rs w5 (by omega) hu
      clear R3 hu
      go_wp2_with fail
      refine HU.out.mono ?_
      rintro e w6 ⟨rfl, hb6⟩
      have T6 := T5.out.keep hb6
      have KB6 : Hid (Below w.heap.size w w6) := KB5.out.trans (hb6.mono KB5.out.size)
      have hl6 := T6.lt
      obtain ⟨r0, r1, r2⟩ := three_set (v0 := .string ⟨#[]⟩) (v1 := .bool false) (v2 := .string ⟨#[]⟩) T6.c0 T6.c1 T6.c2
      have r0 := f_keepA (.cells #[.int .i64 5, .string ⟨#[]⟩] 26) r0
      have r1 := f_keepA (.cells #[.int .i64 5, .string ⟨#[]⟩] 26) r1
      have r2 := f_keepA (.cells #[.int .i64 5, .string ⟨#[]⟩] 26) r2
      obtain ⟨c0, c1, c2, f0, f1, f2⟩ := T6
      clear hb6 HU T5 U5 KB5
      go_wp2_with fail
      exact bodyPost_ret (v := .tuple #[.agg #[.string ⟨#[]⟩, .bool false, .string ⟨#[]⟩], .int .i64 5]) (by simp [results, Tryd.results125, go_sem, r0, r1, r2]) rfl ⟨ItemOfRes.no _ _ _ HR.out, put_alloc KB6.out _ _ _ _⟩
    · have HR : Hid (readR s = some ⟨nm, true, unqS rs⟩) := R3.out.1 hu
      have HU : Hid (Calls Tryd.prog 151 #[.string rs] w5 fun e w' => e = .returned (.agg #[.int .i64 0, .string (unqS rs)]) ∧ Below w5.heap.size w5 w') := implUnquote_any rs w5 (by omega) hu
      clear R3 hu
      generalize unqS rs = uv at *
      go_wp2_with fail
      refine HU.out.mono ?_
      rintro e w6 ⟨rfl, hb6⟩
      have T6 := T5.out.keep hb6
      have U6 := U5.out.keep hb6
      have KB6 : Hid (Below w.heap.size w w6) := KB5.out.trans (hb6.mono KB5.out.size)
      have hl6 := T6.lt
      have hm6 := U6.lt
      obtain ⟨x0, x1, x2, y0, y1, y2, z0, z1, z2⟩ := item_put (v := .string uv) hBn T6.c0 T6.c1 T6.c2 T6.f0 T6.f1 T6.f2 U6.c0 U6.c1 U6.c2
      obtain ⟨r0, r1, r2⟩ := three_set (v0 := .string nm) (v1 := .bool true) (v2 := .string uv) y0 y1 y2
      have r0 := f_keepA (.cells #[.int .i64 0, .string uv] 26) r0
      have r1 := f_keepA (.cells #[.int .i64 0, .string uv] 26) r1
      have r2 := f_keepA (.cells #[.int .i64 0, .string uv] 26) r2
      obtain ⟨c0, c1, c2, f0, f1, f2⟩ := T6
      obtain ⟨d0, d1, d2, g0, g1, g2⟩ := U6
      have hkb := put4 KB6.out (by omega : w.heap.size ≤ B1) (.string uv) (.string nm) (.bool true) (.string uv)
      have HKB : Hid (Below w.heap.size w (((((w6.setCell ⟨B1, 2, none⟩ (.string uv)).setCell ⟨w.heap.size, 0, none⟩ (.string nm)).setCell ⟨w.heap.size, 1, none⟩ (.bool true)).setCell ⟨w.heap.size, 2, none⟩ (.string uv)).alloc (.cells #[.int .i64 0, .string uv] 26))) := hkb.alloc hkb.size _
      clear hb6 HU T5 U5 KB5 hkb
      go_wp2_with fail
      exact bodyPost_ret (v := .tuple #[.agg #[.string nm, .bool true, .string uv], .int .i64 0]) (by simp [results, Tryd.results125, go_sem, r0, r1, r2]) rfl ⟨ItemOfRes.yes HR.out, HKB.out⟩
  · have HR : Hid (readR s = some ⟨nm, true, rs⟩) := R2.out.1 hv
    clear R2 hv
    go_wp2_with fail
    refine (clone_text rs w5 (by omega)).mono ?_
    rintro e w6 ⟨rfl, hb6⟩
    have T6 := T5.out.keep hb6
    have U6 := U5.out.keep hb6
    have KB6 : Hid (Below w.heap.size w w6) := KB5.out.trans (hb6.mono KB5.out.size)
    obtain ⟨x0, x1, x2, y0, y1, y2, z0, z1, z2⟩ := item_put (v := .string rs) hBn T6.c0 T6.c1 T6.c2 T6.f0 T6.f1 T6.f2 U6.c0 U6.c1 U6.c2
    obtain ⟨r0, r1, r2⟩ := three_set (v0 := .string nm) (v1 := .bool true) (v2 := .string rs) y0 y1 y2
    obtain ⟨c0, c1, c2, f0, f1, f2⟩ := T6
    obtain ⟨d0, d1, d2, g0, g1, g2⟩ := U6
    have HKB : Hid (Below w.heap.size w ((((w6.setCell ⟨B1, 2, none⟩ (.string rs)).setCell ⟨w.heap.size, 0, none⟩ (.string nm)).setCell ⟨w.heap.size, 1, none⟩ (.bool true)).setCell ⟨w.heap.size, 2, none⟩ (.string rs))) := put4 KB6.out (by omega : w.heap.size ≤ B1) _ _ _ _
    clear hb6 T5 U5 KB5
    go_wp2_with fail
    exact bodyPost_ret (v := .tuple #[.agg #[.string nm, .bool true, .string rs], .int .i64 0]) (by simp [results, Tryd.results125, go_sem, r0, r1, r2]) rfl ⟨ItemOfRes.yes HR.out, HKB.out⟩
theorem itemOf_any (s : ByteArray) (w : World) (hset : SetIs w) (hs : s.size ≤ 1000) :
    Calls Tryd.prog 125 #[.string s] w fun e w' => ItemOfRes s e ∧ Below w.heap.size w w' := by
  by_cases h : eqAt s.data.toList < s.size
  · exact itemOf_has s w hset hs h
  · exact itemOf_bare s w hset hs h
end Go.Proofs.YtibomkcbopkpkaaDoor
