/-
  What SameResponses and its model answer.
-/
import Derived.Test.YtapnjbdlljnnhaaSameHFns
import Derived.Test.YtapnjbdlljnnhaaByteRows
import Derived.Laws.BytesArg
namespace Go.Proofs.Ytapnjbdlljnnhaa
open Go.ChangeShapes Go.WideShapes Go.ChangeAt Go.RowKit
theorem bytes_text {w : World} {a : Option Addr} {l : List UInt8} (c : Nat) (h : BIn w a l) : (convert 37 9 (.slice a l.length c)).run Try.prog w = .ok (.string ⟨l.toArray⟩) w := by
  cases a with
  | none =>
    rcases h with h | ⟨b, off, e, _⟩
    · subst h
      exact run_convert_bytes_nil w 37 5 Try.underlying37 Try.underlying5 0 c 9 Try.underlying9
    · cases e
  | some x =>
    refine run_convert_bytes_back w 37 9 5 x c l Try.underlying37 Try.underlying5 Try.underlying9 ?_
    intro j hj
    rcases h with h | ⟨b, off, e, hat⟩
    · subst h; simp at hj
    · obtain rfl := Option.some.inj e
      have hadd : (⟨b, off, none⟩ : Addr).add j = ⟨b, off + j, none⟩ := by unfold Addr.add; split <;> simp_all
      rw [hadd]
      exact hat j l[j] (List.getElem?_eq_getElem hj)
def sameP (s : Int) (l : List Hdr) (bl : List UInt8) (s' : Int) (l' : List Hdr) (bl' : List UInt8) : Bool := (s == s') && sameHs l l' && ((⟨bl.toArray⟩ : ByteArray).toList == (⟨bl'.toArray⟩ : ByteArray).toList)
set_option maxHeartbeats 400000 in
theorem bytesEqual_any (w : World) (a b : Option Addr) (ca cb : Nat) (l m : List UInt8) (h1 : BIn w a l) (h2 : BIn w b m) :
    Calls Try.prog 19 #[.slice a l.length ca, .slice b m.length cb] w fun e w' => e = .returned (.bool ((⟨l.toArray⟩ : ByteArray).toList == (⟨m.toArray⟩ : ByteArray).toList)) ∧ w' = w := by
  have e1 := bytes_text ca h1
  have e2 := bytes_text cb h2
  generalize (⟨l.toArray⟩ : ByteArray) = x at *
  generalize (⟨m.toArray⟩ : ByteArray) = y at *
  generalize l.length = n at *
  generalize m.length = k at *
  clear h1 h2
  go_enter Try.func19, Try.ntmps19
  go_wp2_with fail
  go_ret
  exact ⟨rfl, rfl⟩
end Go.Proofs.Ytapnjbdlljnnhaa
