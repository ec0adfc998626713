/-
  Proved here: for every config the law laws.FnExactConfigFault answers true (ConfigFault answers as its model does, and writes into no argument), where the variables that the row lists (unicode/utf8.acceptRanges, impl.wordBytes, unicode/utf8.first) hold when the call begins what the program text lays there; the card ties that to the text (of the pruned copy of the project: its packages without tests).
-/
import Derived.Test.YtlbagfaiiileoaaDoorCards
import Derived.Test.YtlbagfaiiileoaaDoorTie
import Derived.WalkKit
import Derived.ProofKit
import Derived.OpenShut
import Derived.ShutString
import Derived.ChangeOld
import Derived.Below
import Derived.Lay
import Derived.OpenVars
import Derived.Deep.DeepHandedRow
import Derived.MakeChecks
import Derived.Stop.LaidErr
import Derived.JoinedCond
import Derived.Test.YtlbagfaiiileoaaDoorMgC
namespace Go.Proofs.YtlbagfaiiileoaaDoor
open Go.ChangeShapes Go.WideShapes Go.ChangeAt Go.RowKit
open Go.ChangeMaps (open_string shut_string)
set_option linter.unusedVariables false
namespace fnExactConfigFault
theorem own : ownKnob Tryd.prog.godebug = none := by kernel_rfl
theorem laidOut : laidOutB Tryd.prog = true := pf_laid
set_option maxRecDepth 100000 in
theorem contract (H : Type) (enc : TypeId × Value → H) (W : World) (base : Nat) (args : Array Value) (ds gs : List (DataW H)) (before : List MemPlace)
    (hval : ∀ (j : Nat) t v, Tryd.f3.params[j]? = some t → args[j]? = some v → Value.okWide Tryd.prog W .any base t v)
    (hW : DataW.Whole enc Tryd.prog Tryd.f3.params.toList Rows.fnExactConfigFaultSpec.vars false W args.toList ds gs before) (hL : laidMetH Tryd.prog Rows.fnExactConfigFaultRow.laid W) :
    Calls Tryd.prog 3 args W fun e W' => ∃ v, e = .returned v ∧ Rows.fnExactConfigFaultSpec.post enc Tryd.prog Tryd.f3 false true false false W args v W' := by
  have hW' := hW
  obtain ⟨p, q, hA0, hV, rfl, hfz, hnd⟩ := hW
  have hA : DataW.TrodAll enc Tryd.prog W 0 (fun _ => true) true Tryd.f3.params.toList args.toList ds p := hA0
  rw [Tryd.params3] at hA hval
  obtain ⟨v0, vs0, d0, ds0, p0, q0, hargs, rfl, rfl, h0, r0⟩ := trodAll_cons hA
  obtain ⟨rfl, rfl, rfl⟩ := trodAll_nil r0
  obtain rfl : args = #[v0] := by cases args; simp_all
  have k0 := h0
  have lt0 : ∀ x ∈ p0, x.block < W.heap.size := by obtain ⟨m, hm⟩ := k0; exact DataW.trod_lt m _ _ _ hm
  obtain ⟨cb0, cg0, co0, cn0, ce0, cf0, ct0, cc0, na0, nc0, ns0, ls0, lc0, lt0x, r0a, r0b, r0c, r0d, r0e, rfl, s0l, s0z, i0⟩ := open_config (hval 0 28 v0 rfl rfl) h0
  have hg : ∃ g, gs = [g] := by
    cases gs with
    | nil => exact hV.elim
    | cons g r =>
      cases r with
      | nil => exact ⟨g, rfl⟩
      | cons g2 r2 =>
        obtain ⟨_, _, _, _, _, _, _, _, _, _, h5, _⟩ := hV
        exact h5.elim
  obtain ⟨g, rfl⟩ := hg
  clear hA0
  refine (lawConfigFault W cb0 cg0 co0 cn0 ce0 cf0 ct0 cc0 na0 nc0 ns0 ls0 lc0 lt0x r0a r0b r0c r0d r0e (by rw [MakeChecks.laidMetH_plain _ _ _ (by kernel_rfl)] at hL; exact setIs_of (laidMet.tail hL)) s0l s0z i0).mono fun e W' ⟨he, bel⟩ => ?_
  subst he
  exact ⟨_, rfl, _, _, _, [], _, q, hW', trodAll_mk1 (shut_bool Tryd.underlying4 _), (trodAll_cons_mk (Below.trod laidOut (by kernel_rfl) (of_decide_eq_true (by kernel_rfl)) k0 bel lt0) trodAll_mk0), bel.trodVars laidOut (by kernel_rfl) hV, bel.frame _, fun h => by cases h⟩
theorem laid_met (os : Os) : laidMetH Tryd.prog Rows.fnExactConfigFaultRow.laid ((World.laidAll Tryd.prog os Rows.fnExactConfigFaultRow.laid).forCall (fun _ _ => 0) ⟨#[], #[.agg #[.int .i64 0, .int .i64 0, .int .i64 0, .int .i64 0, .int .i64 0, .int .i64 0, .int .i64 0, .int .i64 0, .slice none 0 0, .int .i64 0, .int .i64 0, .int .i64 0, .int .i64 0, .int .i64 0, .int .i64 0, .int .i64 0, .int .i64 0]], []⟩).memory := by
  rw [MakeChecks.laidMetH_plain _ _ _ (by kernel_rfl)]
  exact laidMet_laidAll _ (by kernel_rfl) (by kernel_rfl)
theorem reads (os : Os) {H : Type} (enc : TypeId × Value → H) : ∃ x, DataW.whole enc Tryd.prog ((World.laidAll Tryd.prog os Rows.fnExactConfigFaultRow.laid).forCall (fun _ _ => 0) ⟨#[], #[.agg #[.int .i64 0, .int .i64 0, .int .i64 0, .int .i64 0, .int .i64 0, .int .i64 0, .int .i64 0, .int .i64 0, .slice none 0 0, .int .i64 0, .int .i64 0, .int .i64 0, .int .i64 0, .int .i64 0, .int .i64 0, .int .i64 0, .int .i64 0]], []⟩).memory Tryd.f3.params.toList Rows.fnExactConfigFaultSpec.vars false (#[.agg #[.int .i64 0, .int .i64 0, .int .i64 0, .int .i64 0, .int .i64 0, .int .i64 0, .int .i64 0, .int .i64 0, .slice none 0 0, .int .i64 0, .int .i64 0, .int .i64 0, .int .i64 0, .int .i64 0, .int .i64 0, .int .i64 0, .int .i64 0]] : Array Value).toList 8 = some x :=
  Option.isSome_iff_exists.1 (by kernel_rfl)
set_option maxRecDepth 100000 in
theorem lifted (os : Os) (started : os.Started) (H : Type) (enc : TypeId × Value → H) (F : Stop.Interp) :
    ReturnsInHanded {} Tryd.checked os 3 .any ((OpenSpec.ofChange Rows.fnExactConfigFaultSpec).preRow enc Tryd.prog Tryd.f3 Rows.fnExactConfigFaultRow.domain false Rows.fnExactConfigFaultRow.laid) (((OpenSpec.ofChange Rows.fnExactConfigFaultSpec).at F).post enc Tryd.prog Tryd.f3 false true false false) := by
  obtain ⟨x, hx⟩ := reads os enc
  refine returnsInHanded_of_row (C := Tryd.checked) (s := OpenSpec.ofChange Rows.fnExactConfigFaultSpec) own started (by kernel_rfl) Tryd.func3
    (witness_row_at (enc := enc) (C := Tryd.checked) false (World.laidAll Tryd.prog os Rows.fnExactConfigFaultRow.laid) #[.agg #[.int .i64 0, .int .i64 0, .int .i64 0, .int .i64 0, .int .i64 0, .int .i64 0, .int .i64 0, .int .i64 0, .slice none 0 0, .int .i64 0, .int .i64 0, .int .i64 0, .int .i64 0, .int .i64 0, .int .i64 0, .int .i64 0, .int .i64 0]] (World.laidAll_os _ _ _) (by kernel_rfl) (by kernel_rfl) (by kernel_rfl)
      (OpenSpec.preRow_of_cond 8 hx rfl (fun k hk => by cases hk) (by kernel_rfl) (laid_met os))) ?_
  intro W base args ds gs before hval hW _ _ _ hL _ _
  exact contract H enc W base args ds gs before hval hW hL
theorem c_inPlace : (Rows.fnExactConfigFaultRow.inPlace == Tryd.prog.inPlace 3) = true := by kernel_rfl
theorem c_unfollowed : (Rows.fnExactConfigFaultRow.unfollowed == Tryd.prog.unfollowed 3) = true := by kernel_rfl
theorem c_recurses : (Rows.fnExactConfigFaultRow.recurses == Tryd.prog.recurses 3) = true := by kernel_rfl
theorem c_named : (Rows.fnExactConfigFaultRow.named == Tryd.prog.varsNamed 3) = true := by kernel_rfl
theorem c_lifted : (Rows.fnExactConfigFaultRow.lifted == Tryd.prog.liftsFinal) = true := by kernel_rfl
theorem c_make : (Tryd.prog.make == some Rows.fnExactConfigFaultRow.make) = true := by kernel_rfl
theorem closed : joinedFacts Tryd.prog 3 Tryd.f3 (OpenSpec.ofChange Rows.fnExactConfigFaultSpec).bare Rows.fnExactConfigFaultRow = true := by
  unfold joinedFacts
  rw [pf_laid, pf_maps, pf_stops, pf_knobs, pf_heard, pf_enter, c_inPlace, c_unfollowed, c_recurses, c_named, c_lifted, c_make]
  kernel_rfl
theorem closed2 : joinedFacts Tryd.pinned.checked.prog 3 Tryd.f3 (OpenSpec.ofChange Rows.fnExactConfigFaultSpec).bare Rows.fnExactConfigFaultRow = true := by
  rw [pf_prog]
  exact closed
theorem said : Rows.FnExactConfigFaultSaid :=
  OpenClaim.holds_of_cond 3 Tryd.f3 rfl rfl rfl rfl rfl rfl rfl ⟨rfl, rfl, rfl, rfl, rfl⟩ rfl rfl rfl rfl rfl (by kernel_rfl) Tryd.func3 closed2
    (of_decide_eq_true (by kernel_rfl)) (by unfold Func.isWrapper; first | (rw [if_pos (by decide +kernel)]; kernel_rfl) | (rw [if_neg (by decide +kernel)]; exact ⟨rfl, rfl⟩))
    (fun os started H enc _ F => by rw [OpenClaim.pre_eq_preRow]; exact lifted os started H enc F)
theorem plain (f : FuncId) (fn : Func) (hf : Tryd.pinned.checked.prog.funcNamed "loop.example/g00665/laws.FnExactConfigFault" = some f) (hfn : Tryd.pinned.checked.prog.funcs[f]? = some fn) :
    false = Tryd.pinned.checked.prog.looks [] ∧ ∀ (j : Nat) t, fn.params[j]? = some t → Tryd.pinned.checked.prog.wantsStandIn t = false := by
  obtain rfl : f = 3 := Option.some.inj ((show Tryd.prog.funcNamed "loop.example/g00665/laws.FnExactConfigFault" = some 3 by kernel_rfl).symm.trans hf) |>.symm
  obtain rfl : fn = Tryd.f3 := (Option.some.inj (Tryd.func3.symm.trans hfn)).symm
  refine ⟨by kernel_rfl, fun j t ht => ?_⟩
  rw [Tryd.params3] at ht
  have hm := Array.mem_of_getElem? ht
  have hall : ((#[28] : Array TypeId).toList.all fun u => !Tryd.prog.wantsStandIn u) = true := by kernel_rfl
  exact (show Tryd.prog.wantsStandIn t = false by simpa using List.all_eq_true.1 hall t (by simpa using hm))
end fnExactConfigFault
/-- THE CARD. -/
theorem fnExactConfigFault_card : Rows.FnExactConfigFaultCardSaid :=
  Claim7.holds_tied_plain_at .later [] _ _ _ _ fnExactConfigFault.said (fun _ h => by cases h) (by kernel_rfl) (fun _ h => by cases h) fnExactConfigFault_row_tie rfl ⟨rfl, rfl⟩ (by kernel_rfl) rfl fnExactConfigFault.plain (by kernel_rfl)
#print axioms fnExactConfigFault_card
end Go.Proofs.YtlbagfaiiileoaaDoor
