/-
  What SameRequests and its model answer.
-/
import Derived.Test.YtgejegmilkmiiaaSameHFns
namespace Go.Proofs.Ytgejegmilkmiiaa
open Go.ChangeShapes Go.WideShapes Go.ChangeAt Go.RowKit
def sameQ (m h p : ByteArray) (l : List Hdr) (m' h' p' : ByteArray) (l' : List Hdr) : Bool := (m.toList == m'.toList) && (h.toList == h'.toList) && (p.toList == p'.toList) && sameHs l l'
set_option maxHeartbeats 4000000 in
theorem specSameQ_any (w : World) (m h p : ByteArray) (a : Option Addr) (ca : Nat) (l : List Hdr) (m' h' p' : ByteArray) (b : Option Addr) (cb : Nat) (l' : List Hdr) (hl : l.length ≤ 1048576) (h1 : HdsIn w a l) (h2 : HdsIn w b l') :
    Calls Try.prog 10 #[.agg #[.string m, .string h, .string p, .slice a l.length ca], .agg #[.string m', .string h', .string p', .slice b l'.length cb]] w fun e w' => e = .returned (.bool (sameQ m h p l m' h' p' l')) ∧ Below w.heap.size w w' := by
  have HE : Hid (sameQ m h p l m' h' p' l' = ((m.toList == m'.toList) && (h.toList == h'.toList) && (p.toList == p'.toList) && sameHs l l')) := rfl
  have bV : Below w.heap.size w ((w.alloc (.cells #[.string m, .string h, .string p, .slice a l.length ca] 37)).alloc (.cells #[.string m', .string h', .string p', .slice b l'.length cb] 37)) := ((Below.refl _ _).alloc (Nat.le_refl _) _).alloc (by simp) _
  have C := specSameH_any _ a b ca cb l l' hl (h1.keep bV) (h2.keep bV)
  have HB : Hid (Below w.heap.size w ((w.alloc (.cells #[.string m, .string h, .string p, .slice a l.length ca] 37)).alloc (.cells #[.string m', .string h', .string p', .slice b l'.length cb] 37))) := bV
  clear bV h1 h2
  generalize sameHs l l' = sb at *
  generalize sameQ m h p l m' h' p' l' = q at *
  generalize l.length = n at *
  generalize l'.length = n' at *
  cases c1 : (m.toList == m'.toList)
  · have HV : Hid (q = false) := by show _ = _; rw [HE.out, c1]; rfl
    clear HE C
    go_enter Try.func10, Try.ntmps10
    go_wp2_with fail
    go_ret
    exact ⟨ret_bool HV.out.symm, HB.out⟩
  cases c2 : (h.toList == h'.toList)
  · have HV : Hid (q = false) := by show _ = _; rw [HE.out, c1, c2]; rfl
    clear HE C
    go_enter Try.func10, Try.ntmps10
    go_wp2_with fail
    go_ret
    exact ⟨ret_bool HV.out.symm, HB.out⟩
  cases c3 : (p.toList == p'.toList)
  · have HV : Hid (q = false) := by show _ = _; rw [HE.out, c1, c2, c3]; rfl
    clear HE C
    go_enter Try.func10, Try.ntmps10
    go_wp2_with fail
    go_ret
    exact ⟨ret_bool HV.out.symm, HB.out⟩
  have HV : Hid (q = sb) := by show _ = _; rw [HE.out, c1, c2, c3]; rfl
  clear HE
  go_enter Try.func10, Try.ntmps10
  go_wp2_with fail
  refine C.mono ?_
  rintro e w1 ⟨rfl, hb1⟩
  have HB1 : Hid (Below w.heap.size w w1) := HB.out.trans (hb1.mono HB.out.size)
  clear hb1 C HB
  go_wp2_with fail
  go_ret
  exact ⟨ret_bool HV.out.symm, HB1.out⟩
set_option maxHeartbeats 4000000 in
theorem implSameQ_any (w : World) (m h p : ByteArray) (a : Option Addr) (ca : Nat) (l : List Hdr) (m' h' p' : ByteArray) (b : Option Addr) (cb : Nat) (l' : List Hdr) (hl : l.length ≤ 1048576) (h1 : HdsIn w a l) (h2 : HdsIn w b l') :
    Calls Try.prog 29 #[.agg #[.string m, .string h, .string p, .slice a l.length ca], .agg #[.string m', .string h', .string p', .slice b l'.length cb]] w fun e w' => e = .returned (.bool (sameQ m h p l m' h' p' l')) ∧ Below w.heap.size w w' := by
  have HE : Hid (sameQ m h p l m' h' p' l' = ((m.toList == m'.toList) && (h.toList == h'.toList) && (p.toList == p'.toList) && sameHs l l')) := rfl
  have bV : Below w.heap.size w ((w.alloc (.cells #[.string m, .string h, .string p, .slice a l.length ca] 37)).alloc (.cells #[.string m', .string h', .string p', .slice b l'.length cb] 37)) := ((Below.refl _ _).alloc (Nat.le_refl _) _).alloc (by simp) _
  have C := implSameH_any _ a b ca cb l l' hl (h1.keep bV) (h2.keep bV)
  have HB : Hid (Below w.heap.size w ((w.alloc (.cells #[.string m, .string h, .string p, .slice a l.length ca] 37)).alloc (.cells #[.string m', .string h', .string p', .slice b l'.length cb] 37))) := bV
  clear bV h1 h2
  generalize sameHs l l' = sb at *
  generalize sameQ m h p l m' h' p' l' = q at *
  generalize l.length = n at *
  generalize l'.length = n' at *
  cases c1 : (m.toList == m'.toList)
  · have HV : Hid (q = false) := by show _ = _; rw [HE.out, c1]; rfl
    clear HE C
    go_enter Try.func29, Try.ntmps29
    go_wp2_with fail
    go_ret
    exact ⟨ret_bool HV.out.symm, HB.out⟩
  cases c2 : (h.toList == h'.toList)
  · have HV : Hid (q = false) := by show _ = _; rw [HE.out, c1, c2]; rfl
    clear HE C
    go_enter Try.func29, Try.ntmps29
    go_wp2_with fail
    go_ret
    exact ⟨ret_bool HV.out.symm, HB.out⟩
  cases c3 : (p.toList == p'.toList)
  · have HV : Hid (q = false) := by show _ = _; rw [HE.out, c1, c2, c3]; rfl
    clear HE C
    go_enter Try.func29, Try.ntmps29
    go_wp2_with fail
    go_ret
    exact ⟨ret_bool HV.out.symm, HB.out⟩
  have HV : Hid (q = sb) := by show _ = _; rw [HE.out, c1, c2, c3]; rfl
  clear HE
  go_enter Try.func29, Try.ntmps29
  go_wp2_with fail
  refine C.mono ?_
  rintro e w1 ⟨rfl, hb1⟩
  have HB1 : Hid (Below w.heap.size w w1) := HB.out.trans (hb1.mono HB.out.size)
  clear hb1 C HB
  go_wp2_with fail
  go_ret
  exact ⟨ret_bool HV.out.symm, HB1.out⟩
end Go.Proofs.Ytgejegmilkmiiaa
