/-
  What the teller of itemsOf does, for every loop body.
-/
import Derived.RangeFuncNested
import Derived.RangeFuncBound
import Derived.RangeFuncCalls
import Derived.RangeFuncLeaves
import Derived.Shelf.Abstract
import Derived.Shelf.RegionOpen
import Derived.WalkKit
import Derived.OwnWalkIn
import Derived.TacticsInMore
import Derived.LoopNIn
import Derived.LoopIn
import Derived.Test.YtibomkcbopkpkaaDoorTrimsPlain
import Derived.Test.YtibomkcbopkpkaaDoorItemOfHas
namespace Go.Proofs.YtibomkcbopkpkaaDoor
open Go.ChangeShapes Go.WideShapes Go.ChangeAt Go.RowKit Go.Shelf
attribute [local go_sem] Oper.semAt_some
theorem ascii_set {l : List UInt8} (h : (l.all fun b => decide (b.toNat < 128)) = true) : ∀ (j : Nat) b, l[j]? = some b → b.toNat < 128 := fun _ b hb => by
  have := List.all_eq_true.1 h b (List.mem_of_getElem? hb)
  simpa using this
theorem trim_lib2 (s : ByteArray) (w : World) (hs : s.size ≤ 1000) :
    Calls Tryd.prog 56 #[.string s, .string ⟨#[32, 9]⟩] w fun e w' => e = .returned (.string (trimT s)) ∧ Below w.heap.size w w' :=
  Any.strings_Trim_laid Tryd.lays160 (by kernel_rfl) s ⟨#[32, 9]⟩ w (by omega) (by decide) (ascii_set (by decide))
theorem setIs_belowN {w w' : World} {n : Nat} (h : SetIs w) (hb : Below n w w') (hn : 0 < n) : SetIs w' := by
  obtain ⟨cs, tt, fr, hg, h1, h2⟩ := h
  exact ⟨cs, tt, fr, by rw [hb.block 0 hn, hg], h1, h2⟩
def encX (x : Rec × Int) : Array Value := #[.agg #[.string x.1.name, .bool x.1.has, .string x.1.value], .int .i64 x.2]
/-- What a round that goes on keeps. -/
def KeepT (n₀ Bt : Nat) (s : ByteArray) (W W' : World) : Prop := Below n₀ W W' ∧ (W.cell? ⟨Bt, 0, none⟩ = some (.string s) → W'.cell? ⟨Bt, 0, none⟩ = some (.string s))
theorem grown_of {W W' : World} (h : Below W.heap.size W W') : W.grownBy W' none := ⟨h.os, h.tape, h.output, h.size, fun k hk _ => h.block k hk⟩
set_option maxRecDepth 100000 in
set_option maxHeartbeats 8000000 in
theorem tell_in (n : Nat) (hn : 1 ≤ n) (l Bt n₀ : Nat) (s : ByteArray) (hs : s.size ≤ 1000) (hG : 0 < n₀) (J Jx : List (Rec × Int) → World → Prop)
    (hJ : ∀ pre W W', J pre W → W.grownBy W' none → J pre W')
    (hY : ∀ pre x W, J pre W → pre.length < 1002 → YieldAt Fence.wide (n - 1) Tryd.prog l (encX x) W fun e W' =>
      (e = .returned (.bool true) ∧ J (pre ++ [x]) W' ∧ KeepT n₀ Bt s W W') ∨ (e = .returned (.bool false) ∧ Jx (pre ++ [x]) W'))
    (W : World) (hc : W.cell? ⟨Bt, 0, none⟩ = some (.string s)) (hset : SetIs W) (h0 : J [] W) :
    CallsIn Fence.wide n Tryd.prog 123 #[.func (.yield l) #[] #[], .pointer (some ⟨Bt, 0, none⟩)] W fun e W' => (∃ v, e = .returned v) ∧
      ((∃ ys, AllTell (trims (pcs false [] s.data.toList)) ys ∧ J ys W') ∨ (∃ pre, (∃ d, d <+: trims (pcs false [] s.data.toList) ∧ AllTell d pre) ∧ Jx pre W')) := by
  have hT := (pcs_small s.data.toList.length s.data.toList false [] (Nat.le_refl _)).2
  rw [size_list] at hT
  have hTl := trims_len (pcs false [] s.data.toList)
  have HY : Hid (∀ pre x W, J pre W → pre.length < 1002 → YieldAt Fence.wide (n - 1) Tryd.prog l (encX x) W fun e W' =>
      (e = .returned (.bool true) ∧ J (pre ++ [x]) W' ∧ KeepT n₀ Bt s W W') ∨ (e = .returned (.bool false) ∧ Jx (pre ++ [x]) W')) := hY
  have HJ : Hid (∀ pre W W', J pre W → W.grownBy W' none → J pre W') := hJ
  clear hY hJ
  refine callsIn_of_wp Tryd.func123 rfl trivial ?_ rfl
  simp only [Tryd.ntmps123, List.size_toArray, List.length_cons, List.length_nil, Nat.reduceAdd, Nat.reduceSub, Array.replicate_succ, Array.replicate_zero, List.push_toArray, List.append_toArray, List.nil_append, List.cons_append]
  gi_wp2
  gi_loopw [3] (fun b wr => ∃ (k : Nat) (done : List ByteArray) (pre : List (Rec × Int)), b = .int .i64 k ∧ k ≤ s.size + 1 ∧ TellAt s done k ∧ AllTell done pre ∧ J pre wr ∧ wr.cell? ⟨Bt, 0, none⟩ = some (.string s) ∧ SetIs wr ∧ done.length ≤ (trims (pcs false [] s.data.toList)).length) (fun b _ => s.size + 1 - (intOf b).toNat)
  case atStart => exact ⟨0, [], [], rfl, Nat.zero_le _, .inl ⟨Nat.zero_le _, rfl⟩, trivial, h0, hc, hset, Nat.zero_le _⟩
  case round =>
    obtain ⟨k, done, pre, rfl, hk, hta, htl, hJs, hcs, hsets, hdl⟩ := hrel
    have HA : Hid (TellAt s done k) := hta
    have HL : Hid (AllTell done pre) := htl
    have HS : Hid (SetIs wr) := hsets
    have HJs : Hid (J pre wr) := hJs
    clear hta htl hsets hJs hc hset h0
    by_cases hlt : k < s.size
    · have g : (k : Int) < s.size := by omega
      have hpe : pEnd s.data.toList k ≤ s.size ∧ k ≤ pEnd s.data.toList k := by
        have hp := peS_le _ (s.data.toList.drop k) false (Nat.le_refl _)
        rw [List.length_drop, size_list] at hp
        unfold pEnd; omega
      have HX : Hid (s.extract k (pEnd s.data.toList k) = mkB ((s.data.toList.drop k).take (pEnd s.data.toList k - k))) := ext_mk _ _ _
      have hxz := ext_size s k (pEnd s.data.toList k) hs
      have A1 := HA.out.skip hlt
      have A2 := HA.out.take hlt
      have PE := pieceEnd_any s k wr hs hlt
      rw [← HX.out] at A1 A2
      generalize pEnd s.data.toList k = q at *
      have TR := fun w => trim_lib2 (s.extract k q) w hxz
      have htz : (trimT (s.extract k q)).size ≤ 1000 := Nat.le_trans (trim_le _) hxz
      generalize trimT (s.extract k q) = t at *
      have HPE : Hid (Calls Tryd.prog 124 #[.string s, .int .i64 k] wr fun e w' => e = .returned (.int .i64 (q : Int)) ∧ w' = wr) := PE
      have HTR : Hid (∀ w, Calls Tryd.prog 56 #[.string (s.extract k q), .string ⟨#[32, 9]⟩] w fun e w' => e = .returned (.string t) ∧ Below w.heap.size w w') := TR
      have gq0 : (0 : Int) ≤ k := by omega
      have gq1 : (k : Int) ≤ q := by omega
      have gq2 : (q : Int) ≤ s.size := by omega
      clear PE TR HX HA
      by_cases ht0 : t.size = 0
      · have HA1 : Hid (TellAt s done (q + 1)) := A1 ht0
        have ht := str_nil ht0
        subst ht
        clear A1 A2 ht0
        gi_wp2_with (first
          | (refine ⟨trivial, ?_⟩; gi_at_call 124; refine (callsIn_wide.2 HPE.out).mono ?_; rintro e w1 ⟨rfl, rfl⟩)
          | (refine ⟨trivial, ?_⟩; gi_at_call 56; refine (callsIn_wide.2 (HTR.out _)).mono ?_; rintro e w2 ⟨rfl, hb2⟩))
        refine ⟨trivial, ?_⟩
        gi_wp2
        refine ⟨fun _ h => (by cases h), ?_⟩
        gi_wp2
        go_roundw
        case rel => exact ⟨q + 1, done, pre, by go_num, by omega, HA1.out, HL.out, HJ.out _ _ _ HJs.out (grown_of hb2), f_keep hb2 hcs, HS.out.below hb2, hdl⟩
        case measure => simp [intOf]; omega
      · obtain ⟨ha2, hpre⟩ := A2 ht0
        have HA2 : Hid (TellAt s (done ++ [t]) (q + 1)) := ha2
        have HPF : Hid ((done ++ [t]) <+: trims (pcs false [] s.data.toList)) := hpre
        have hte := str_some ht0
        have hpl : pre.length < 1002 := by
          have h1 := tells_len HL.out
          omega
        clear A1 A2 ht0 ha2 hpre
        gi_wp2_with (first
          | (refine ⟨trivial, ?_⟩; gi_at_call 124; refine (callsIn_wide.2 HPE.out).mono ?_; rintro e w1 ⟨rfl, rfl⟩)
          | (refine ⟨trivial, ?_⟩; gi_at_call 56; refine (callsIn_wide.2 (HTR.out _)).mono ?_; rintro e w2 ⟨rfl, hb2⟩)
          | (refine ⟨trivial, ?_⟩; gi_at_call 125; refine (callsIn_wide.2 (itemOf_any t _ (HS.out.below hb2) htz)).mono ?_; rintro e w3 ⟨⟨⟨rn, rh, rv⟩, rc, rfl, hres⟩, hb3⟩; have hJ3 := HJ.out _ _ _ (HJ.out _ _ _ HJs.out (grown_of hb2)) (grown_of hb3); obtain ⟨fn, tmps, assign, body, hy, hR⟩ := HY.out pre (⟨rn, rh, rv⟩, rc) w3 hJ3 hpl; dsimp only [encX] at hy))
        refine hR.mono ?_
        rintro e W3 (⟨rfl, hJ4, hk4⟩ | ⟨rfl, hJx4⟩)
        · have hc4 := hk4.2 (f_keep hb3 (f_keep hb2 hcs))
          have hs4 : SetIs W3 := setIs_belowN ((HS.out.below hb2).below hb3) hk4.1 hG
          have htell : Tells t (⟨rn, rh, rv⟩, rc) := hres
          have HFIN : Hid (AllTell (done ++ [t]) (pre ++ [(⟨rn, rh, rv⟩, rc)]) ∧ J (pre ++ [(⟨rn, rh, rv⟩, rc)]) W3 ∧ W3.cell? ⟨Bt, 0, none⟩ = some (.string s) ∧ SetIs W3 ∧ (done ++ [t]).length ≤ (trims (pcs false [] s.data.toList)).length) := ⟨tells_snoc HL.out htell, hJ4, hc4, hs4, HPF.out.length_le⟩
          clear hc4 hs4 htell hJ4 hk4 hy hR hJ3
          gi_wp2
          go_roundw
          case rel => exact ⟨q + 1, done ++ [t], pre ++ [(⟨rn, rh, rv⟩, rc)], by go_num, by omega, HA2.out, HFIN.out.1, HFIN.out.2.1, HFIN.out.2.2.1, HFIN.out.2.2.2.1, HFIN.out.2.2.2.2⟩
          case measure => simp [intOf]; omega
        · have htell : Tells t (⟨rn, rh, rv⟩, rc) := hres
          have HFIN : Hid (AllTell (done ++ [t]) (pre ++ [(⟨rn, rh, rv⟩, rc)])) := tells_snoc HL.out htell
          gi_wp2
          refine bodyPost_ret (results_none rfl _ _ _) rfl ?_
          exact ⟨⟨_, rfl⟩, .inr ⟨pre ++ [(⟨rn, rh, rv⟩, rc)], ⟨done ++ [t], HPF.out, HFIN.out⟩, hJx4⟩⟩
    · have HT : Hid (trims (pcs false [] s.data.toList) = done) := HA.out.over hlt
      have g : ¬ (k : Int) < s.size := by omega
      clear HA HY HJ
      gi_wp2
      go_end0
      exact ⟨⟨_, rfl⟩, .inl ⟨pre, by rw [HT.out]; exact HL.out, HJs.out⟩⟩
end Go.Proofs.YtibomkcbopkpkaaDoor
