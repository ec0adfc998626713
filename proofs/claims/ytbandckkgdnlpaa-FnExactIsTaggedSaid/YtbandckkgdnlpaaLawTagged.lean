/-
  The law of IsTagged.
-/
import Derived.Test.YtbandckkgdnlpaaTagIs
namespace Go.Proofs.Ytbandckkgdnlpaa
open Go.ChangeShapes Go.WideShapes Go.ChangeAt Go.RowKit
set_option maxRecDepth 100000 in
set_option maxHeartbeats 4000000 in
theorem lawIsTagged (w : World) (c : Option Addr) (nc : Nat) (ns : List ByteArray) (t : ByteArray) (hnl : ns.length ≤ maxLen) (hns : ∀ x ∈ ns, x.size ≤ maxLen) (hi : TIn w c ns) :
    Calls Try.prog 5 #[.slice c ns.length nc, .string t] w fun e w' => e = .returned (.bool true) ∧ Below w.heap.size w w' := by
  have HTI : Hid (∀ X, Below w.heap.size w X → TIn X c ns) := fun X hb => hi.keep hb
  have CS := szStringS_any w c nc ns hnl hi hns 1048576 (by omega) (by omega)
  have HNR : Hid (¬ szTL 1048576 ns < 0 → ns.length ≤ 1048576 ∧ ∀ x ∈ ns, x.size ≤ 1048576) := szTL_room (by omega)
  generalize szTL 1048576 ns = z at *
  clear hi hns hnl
  by_cases hz : (1048576 : Int) < t.size
  · generalize ns.length = n at *
    clear CS
    go_enter Try.func5, Try.ntmps5
    go_wp2_with fail
    go_ret
    exact ⟨rfl, Below.refl _ _⟩
  by_cases cz : z < 0
  · generalize ns.length = n at *
    go_enter Try.func5, Try.ntmps5
    go_wp2_with fail
    refine CS.mono ?_
    rintro e w1 ⟨rfl, hb1⟩
    have KB : Hid (Below w.heap.size w w1) := hb1
    clear hb1
    go_wp2_with fail
    go_ret
    exact ⟨rfl, KB.out⟩
  obtain ⟨yn, _⟩ := HNR.out (by omega)
  clear HNR
  have HT : Hid (∀ X, Below w.heap.size w X → Calls Try.prog 14 #[.slice c ns.length nc] X fun e w' => e = .returned (.slice (some ⟨X.heap.size, 0, none⟩) ns.length ns.length) ∧ TMine w' X.heap.size ns ∧ Below X.heap.size X w') := fun X hb => toStringS_any X c nc ns yn (HTI.out X hb)
  have HS : Hid (∀ X B, TIn X (some ⟨B, 0, none⟩) ns → Calls Try.prog 13 #[.slice (some ⟨B, 0, none⟩) ns.length ns.length, .string t] X fun e w' => e = .returned (.bool (tagB ns t)) ∧ w' = X) := fun X B h => specTagged_any X _ _ ns t yn h
  have HG : Hid (∀ X B, TIn X (some ⟨B, 0, none⟩) ns → Calls Try.prog 15 #[.slice (some ⟨B, 0, none⟩) ns.length ns.length, .string t] X fun e w' => e = .returned (.bool (tagB ns t)) ∧ w' = X) := fun X B h => implTagged_any X _ _ ns t yn h
  have HQ : Hid (∀ X B C, TIn X (some ⟨B, 0, none⟩) ns → TIn X (some ⟨C, 0, none⟩) ns → Calls Try.prog 16 #[.slice (some ⟨B, 0, none⟩) ns.length ns.length, .slice (some ⟨C, 0, none⟩) ns.length ns.length] X fun e w' => e = .returned (.bool true) ∧ Below X.heap.size X w') := fun X B C h1 h2 => eqStringS_same X _ _ _ _ ns yn h1 h2
  generalize tagB ns t = b at *
  generalize ns.length = n at *
  go_enter Try.func5, Try.ntmps5
  go_wp2_with fail
  refine CS.mono ?_
  rintro e w1 ⟨rfl, hb1⟩
  have K1 : Hid (Below w.heap.size w w1) := hb1
  clear hb1 CS
  go_wp2_with fail
  refine (HT.out w1 K1.out).mono ?_
  rintro e w2 ⟨rfl, hm2, hb2⟩
  have K2 : Hid (Below w.heap.size w w2) := K1.out.trans (hb2.mono K1.out.size)
  have M2 : Hid (TMine w2 w1.heap.size ns) := hm2
  clear hb2 hm2 K1
  generalize w1.heap.size = B1 at *
  clear w1
  go_wp2_with fail
  refine (HS.out w2 B1 M2.out.in).mono ?_
  rintro e w3 ⟨rfl, rfl⟩
  clear M2
  go_wp2_with fail
  refine (HT.out w3 K2.out).mono ?_
  rintro e w4 ⟨rfl, hm4, hb4⟩
  have K4 : Hid (Below w.heap.size w w4) := K2.out.trans (hb4.mono K2.out.size)
  have M4 : Hid (TMine w4 w3.heap.size ns) := hm4
  clear hb4 hm4 K2
  generalize w3.heap.size = B3 at *
  clear w3
  go_wp2_with fail
  refine (HG.out w4 B3 M4.out.in).mono ?_
  rintro e w5 ⟨rfl, rfl⟩
  have hbb : (b != b) = false := by simp
  go_wp2_with fail
  refine (HT.out w5 K4.out).mono ?_
  rintro e w6 ⟨rfl, hm6, hb6⟩
  have K6 : Hid (Below w.heap.size w w6) := K4.out.trans (hb6.mono K4.out.size)
  have M6 : Hid (TMine w6 w5.heap.size ns) := hm6
  have M5 : Hid (TMine w6 B3 ns) := M4.out.keep hb6
  clear hb6 hm6 K4 M4
  generalize w5.heap.size = B5 at *
  clear w5
  go_wp2_with fail
  refine (HQ.out w6 B3 B5 M5.out.in M6.out.in).mono ?_
  rintro e w7 ⟨rfl, hb7⟩
  have K7 : Hid (Below w.heap.size w w7) := K6.out.trans (hb7.mono K6.out.size)
  clear hb7 K6 M5 M6
  go_wp2_with fail
  go_ret
  exact ⟨rfl, K7.out⟩
end Go.Proofs.Ytbandckkgdnlpaa
