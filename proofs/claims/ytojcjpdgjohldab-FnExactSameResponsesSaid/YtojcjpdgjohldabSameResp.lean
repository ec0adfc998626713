/-
  What SameResponses and its model answer.
-/
import Derived.Test.YtojcjpdgjohldabSameHFns
import Derived.Test.YtojcjpdgjohldabByteRows
import Derived.Laws.BytesArg
namespace Go.Proofs.Ytojcjpdgjohldab
open Go.ChangeShapes Go.WideShapes Go.ChangeAt Go.RowKit
theorem bytes_text {w : World} {a : Option Addr} {l : List UInt8} (c : Nat) (h : BIn w a l) : (convert 23 9 (.slice a l.length c)).run Try.prog w = .ok (.string ⟨l.toArray⟩) w := by
  cases a with
  | none =>
    rcases h with h | ⟨b, off, e, _⟩
    · subst h
      exact run_convert_bytes_nil w 23 5 Try.underlying23 Try.underlying5 0 c 9 Try.underlying9
    · cases e
  | some x =>
    refine run_convert_bytes_back w 23 9 5 x c l Try.underlying23 Try.underlying5 Try.underlying9 ?_
    intro j hj
    rcases h with h | ⟨b, off, e, hat⟩
    · subst h; simp at hj
    · obtain rfl := Option.some.inj e
      have hadd : (⟨b, off, none⟩ : Addr).add j = ⟨b, off + j, none⟩ := by unfold Addr.add; split <;> simp_all
      rw [hadd]
      exact hat j l[j] (List.getElem?_eq_getElem hj)
def sameP (s : Int) (l : List Hdr) (bl : List UInt8) (s' : Int) (l' : List Hdr) (bl' : List UInt8) : Bool := (s == s') && sameHs l l' && ((⟨bl.toArray⟩ : ByteArray).toList == (⟨bl'.toArray⟩ : ByteArray).toList)
set_option maxHeartbeats 400000 in
theorem bytesEqual_any (w : World) (a b : Option Addr) (ca cb : Nat) (l m : List UInt8) (h1 : BIn w a l) (h2 : BIn w b m) :
    Calls Try.prog 15 #[.slice a l.length ca, .slice b m.length cb] w fun e w' => e = .returned (.bool ((⟨l.toArray⟩ : ByteArray).toList == (⟨m.toArray⟩ : ByteArray).toList)) ∧ w' = w := by
  have e1 := bytes_text ca h1
  have e2 := bytes_text cb h2
  generalize (⟨l.toArray⟩ : ByteArray) = x at *
  generalize (⟨m.toArray⟩ : ByteArray) = y at *
  generalize l.length = n at *
  generalize m.length = k at *
  clear h1 h2
  go_enter Try.func15, Try.ntmps15
  go_wp2_with fail
  go_ret
  exact ⟨rfl, rfl⟩
set_option maxHeartbeats 4000000 in
theorem specSameP_any (w : World) (s : Int) (a : Option Addr) (ca : Nat) (l : List Hdr) (c : Option Addr) (cc : Nat) (bl : List UInt8) (s' : Int) (b : Option Addr) (cb : Nat) (l' : List Hdr) (d : Option Addr) (cd : Nat) (bl' : List UInt8) (hl : l.length ≤ 1048576) (h1 : HdsIn w a l) (h2 : HdsIn w b l') (k1 : BIn w c bl) (k2 : BIn w d bl') :
    Calls Try.prog 5 #[.agg #[.int .i64 s, .slice a l.length ca, .slice c bl.length cc], .agg #[.int .i64 s', .slice b l'.length cb, .slice d bl'.length cd]] w fun e w' => e = .returned (.bool (sameP s l bl s' l' bl')) ∧ Below w.heap.size w w' := by
  have HE : Hid (sameP s l bl s' l' bl' = ((s == s') && sameHs l l' && ((⟨bl.toArray⟩ : ByteArray).toList == (⟨bl'.toArray⟩ : ByteArray).toList))) := rfl
  obtain ⟨V, hV⟩ : ∃ V, V = ((w.alloc (.cells #[.int .i64 s, .slice a l.length ca, .slice c bl.length cc] 30)).alloc (.cells #[.int .i64 s', .slice b l'.length cb, .slice d bl'.length cd] 30)) := ⟨_, rfl⟩
  have HV : Hid (V = ((w.alloc (.cells #[.int .i64 s, .slice a l.length ca, .slice c bl.length cc] 30)).alloc (.cells #[.int .i64 s', .slice b l'.length cb, .slice d bl'.length cd] 30))) := hV
  have bV : Below w.heap.size w V := by rw [hV]; exact ((Below.refl _ _).alloc (Nat.le_refl _) _).alloc (by simp) _
  have c1 : V.cell? ⟨w.heap.size, 2, none⟩ = some (.slice c bl.length cc) := by rw [hV, World.cell?_alloc_past _ _ _ (by simp), World.cell?_alloc_mark]; rfl
  have c2 : V.cell? ⟨w.heap.size + 1, 2, none⟩ = some (.slice d bl'.length cd) := by
    rw [hV]
    have : (w.alloc (.cells #[.int .i64 s, .slice a l.length ca, .slice c bl.length cc] 30)).heap.size = w.heap.size + 1 := by simp
    rw [← this, World.cell?_alloc_mark]; rfl
  have hs : V.heap.size = w.heap.size + 2 := by rw [hV]; simp
  have C := specSameH_any V a b ca cb l l' hl (h1.keep bV) (h2.keep bV)
  have HK : Hid (∀ X, Below w.heap.size w X → BIn X c bl ∧ BIn X d bl') := fun X hb => ⟨k1.keep hb, k2.keep hb⟩
  have HB : Hid (Below w.heap.size w V) := bV
  have HC : Hid (∀ X, Below V.heap.size V X → X.cell? ⟨w.heap.size, 2, none⟩ = some (.slice c bl.length cc) ∧ X.cell? ⟨w.heap.size + 1, 2, none⟩ = some (.slice d bl'.length cd)) := fun X hb => ⟨by rw [hb.cell (p := ⟨w.heap.size, 2, none⟩) (by simp only; omega)]; exact c1, by rw [hb.cell (p := ⟨w.heap.size + 1, 2, none⟩) (by simp only; omega)]; exact c2⟩
  clear bV h1 h2 hV k1 k2 hs c1 c2
  generalize sameHs l l' = sb at *
  generalize sameP s l bl s' l' bl' = q at *
  generalize l.length = n at *
  generalize l'.length = n' at *
  cases c1 : (s == s')
  · have HV2 : Hid (q = false) := by show _ = _; rw [HE.out, c1]; rfl
    rw [HV.out] at HB
    clear HE C HK HC
    generalize bl.length = k at *
    generalize bl'.length = k' at *
    go_enter Try.func5, Try.ntmps5
    go_wp2_with fail
    go_ret
    exact ⟨ret_bool HV2.out.symm, HB.out⟩
  go_enter Try.func5, Try.ntmps5
  go_wp2_with fail
  rw [← HV.out]
  refine C.mono ?_
  rintro e w1 ⟨rfl, hb1⟩
  have HB1 : Hid (Below w.heap.size w w1) := HB.out.trans (hb1.mono HB.out.size)
  obtain ⟨p1, p2⟩ := HC.out w1 hb1
  obtain ⟨i1, i2⟩ := HK.out w1 HB1.out
  clear hb1 C HB HV HC HK
  cases sb
  · have HV2 : Hid (q = false) := by show _ = _; rw [HE.out, c1]; rfl
    clear HE i1 i2
    go_wp2_with fail
    go_ret
    exact ⟨ret_bool HV2.out.symm, HB1.out⟩
  have HV2 : Hid (q = ((⟨bl.toArray⟩ : ByteArray).toList == (⟨bl'.toArray⟩ : ByteArray).toList)) := by show _ = _; rw [HE.out, c1]; rfl
  clear HE
  have e1 := bytes_text cc i1
  have e2 := bytes_text cd i2
  clear i1 i2
  generalize (⟨bl.toArray⟩ : ByteArray) = x at *
  generalize (⟨bl'.toArray⟩ : ByteArray) = y at *
  generalize bl.length = k at *
  generalize bl'.length = k' at *
  go_wp2_with fail
  go_ret
  exact ⟨ret_bool HV2.out.symm, HB1.out⟩
set_option maxHeartbeats 4000000 in
theorem implSameP_any (w : World) (s : Int) (a : Option Addr) (ca : Nat) (l : List Hdr) (c : Option Addr) (cc : Nat) (bl : List UInt8) (s' : Int) (b : Option Addr) (cb : Nat) (l' : List Hdr) (d : Option Addr) (cd : Nat) (bl' : List UInt8) (hl : l.length ≤ 1048576) (h1 : HdsIn w a l) (h2 : HdsIn w b l') (k1 : BIn w c bl) (k2 : BIn w d bl') :
    Calls Try.prog 7 #[.agg #[.int .i64 s, .slice a l.length ca, .slice c bl.length cc], .agg #[.int .i64 s', .slice b l'.length cb, .slice d bl'.length cd]] w fun e w' => e = .returned (.bool (sameP s l bl s' l' bl')) ∧ Below w.heap.size w w' := by
  have HE : Hid (sameP s l bl s' l' bl' = ((s == s') && sameHs l l' && ((⟨bl.toArray⟩ : ByteArray).toList == (⟨bl'.toArray⟩ : ByteArray).toList))) := rfl
  obtain ⟨V, hV⟩ : ∃ V, V = ((w.alloc (.cells #[.int .i64 s, .slice a l.length ca, .slice c bl.length cc] 30)).alloc (.cells #[.int .i64 s', .slice b l'.length cb, .slice d bl'.length cd] 30)) := ⟨_, rfl⟩
  have HV : Hid (V = ((w.alloc (.cells #[.int .i64 s, .slice a l.length ca, .slice c bl.length cc] 30)).alloc (.cells #[.int .i64 s', .slice b l'.length cb, .slice d bl'.length cd] 30))) := hV
  have bV : Below w.heap.size w V := by rw [hV]; exact ((Below.refl _ _).alloc (Nat.le_refl _) _).alloc (by simp) _
  have c1 : V.cell? ⟨w.heap.size, 2, none⟩ = some (.slice c bl.length cc) := by rw [hV, World.cell?_alloc_past _ _ _ (by simp), World.cell?_alloc_mark]; rfl
  have c2 : V.cell? ⟨w.heap.size + 1, 2, none⟩ = some (.slice d bl'.length cd) := by
    rw [hV]
    have : (w.alloc (.cells #[.int .i64 s, .slice a l.length ca, .slice c bl.length cc] 30)).heap.size = w.heap.size + 1 := by simp
    rw [← this, World.cell?_alloc_mark]; rfl
  have hs : V.heap.size = w.heap.size + 2 := by rw [hV]; simp
  have C := implSameH_any V a b ca cb l l' hl (h1.keep bV) (h2.keep bV)
  have HK : Hid (∀ X, Below w.heap.size w X → BIn X c bl ∧ BIn X d bl') := fun X hb => ⟨k1.keep hb, k2.keep hb⟩
  have HB : Hid (Below w.heap.size w V) := bV
  have HC : Hid (∀ X, Below V.heap.size V X → X.cell? ⟨w.heap.size, 2, none⟩ = some (.slice c bl.length cc) ∧ X.cell? ⟨w.heap.size + 1, 2, none⟩ = some (.slice d bl'.length cd)) := fun X hb => ⟨by rw [hb.cell (p := ⟨w.heap.size, 2, none⟩) (by simp only; omega)]; exact c1, by rw [hb.cell (p := ⟨w.heap.size + 1, 2, none⟩) (by simp only; omega)]; exact c2⟩
  clear bV h1 h2 hV k1 k2 hs c1 c2
  generalize sameHs l l' = sb at *
  generalize sameP s l bl s' l' bl' = q at *
  generalize l.length = n at *
  generalize l'.length = n' at *
  cases c1 : (s == s')
  · have HV2 : Hid (q = false) := by show _ = _; rw [HE.out, c1]; rfl
    rw [HV.out] at HB
    clear HE C HK HC
    generalize bl.length = k at *
    generalize bl'.length = k' at *
    go_enter Try.func7, Try.ntmps7
    go_wp2_with fail
    go_ret
    exact ⟨ret_bool HV2.out.symm, HB.out⟩
  go_enter Try.func7, Try.ntmps7
  go_wp2_with fail
  rw [← HV.out]
  refine C.mono ?_
  rintro e w1 ⟨rfl, hb1⟩
  have HB1 : Hid (Below w.heap.size w w1) := HB.out.trans (hb1.mono HB.out.size)
  obtain ⟨p1, p2⟩ := HC.out w1 hb1
  obtain ⟨i1, i2⟩ := HK.out w1 HB1.out
  clear hb1 C HB HV HC HK
  cases sb
  · have HV2 : Hid (q = false) := by show _ = _; rw [HE.out, c1]; rfl
    clear HE i1 i2
    go_wp2_with fail
    go_ret
    exact ⟨ret_bool HV2.out.symm, HB1.out⟩
  have HV2 : Hid (q = ((⟨bl.toArray⟩ : ByteArray).toList == (⟨bl'.toArray⟩ : ByteArray).toList)) := by show _ = _; rw [HE.out, c1]; rfl
  clear HE
  have C2 := bytesEqual_any w1 c d cc cd bl bl' i1 i2
  clear i1 i2
  generalize (⟨bl.toArray⟩ : ByteArray) = x at *
  generalize (⟨bl'.toArray⟩ : ByteArray) = y at *
  generalize bl.length = k at *
  generalize bl'.length = k' at *
  go_wp2_with fail
  refine C2.mono ?_
  rintro e w2 ⟨rfl, hw⟩
  obtain rfl := hw.symm
  clear C2 hw
  go_wp2_with fail
  go_ret
  exact ⟨ret_bool HV2.out.symm, HB1.out⟩
end Go.Proofs.Ytojcjpdgjohldab
