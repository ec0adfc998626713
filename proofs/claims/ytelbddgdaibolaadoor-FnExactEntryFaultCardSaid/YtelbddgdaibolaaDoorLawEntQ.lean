/-
  The law of EntryFault, for an entry that came in.
-/
import Derived.Test.YtelbddgdaibolaaDoorLawEntFault
import Derived.Test.YtelbddgdaibolaaDoorEntImpl
import Derived.Test.YtelbddgdaibolaaDoorEntAt
namespace Go.Proofs.YtelbddgdaibolaaDoor
open Go.ChangeShapes Go.WideShapes Go.ChangeAt Go.RowKit Go.Sort
theorem lawEntryFault_q (w : World) (q : Ent) (r : EntR) (hset : SetIs w) (hi : EntIn w q r) (hs : EntSm q) :
    Calls Tryd.prog 3 #[entV q r] w fun r w' => r = .returned (.bool true) ∧ Below w.heap.size w w' :=
  lawEntryFault w q.key q.st r.ha r.hc r.ba r.bc q.t q.g q.l q.s q.e q.b1 q.b2 r.ta r.tc q.pins q.hs q.bl q.ts hs.key hs.hl hs.hs hs.bl hs.tl hs.ts hi.h hi.b hi.k
    (fun h1 h2 h3 X k d f hb mq _ _ => implEntry_any X q.key q.st (some ⟨k, 0, none⟩) _ (some ⟨d, 0, none⟩) _ q.t q.g q.l q.s q.e q.b1 q.b2 (some ⟨f, 0, none⟩) _ q.pins q.hs _ _ hs.key h1 (by unfold maxLen; omega) (by unfold maxLen; omega) (hset.below hb) (.inr ⟨k, 0, rfl, mq.at0⟩))
end Go.Proofs.YtelbddgdaibolaaDoor
