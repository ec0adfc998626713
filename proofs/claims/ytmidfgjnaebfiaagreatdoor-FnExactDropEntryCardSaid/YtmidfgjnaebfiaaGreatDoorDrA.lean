/-
  Texts of one claim, one behind the other.
-/
import Derived.BigQuiet
import Derived.Deep.RegionHeld3
import Derived.JoinedCond
import Derived.Lib.OwnBridge
import Derived.Lib.QuietBelow
import Derived.Lib.SliceRun
import Derived.LoopIn
import Derived.LoopNIn
import Derived.MakeChecks
import Derived.OwnWalkIn
import Derived.ProofKit
import Derived.RangeFuncBound
import Derived.RangeFuncBox
import Derived.RangeFuncCalls
import Derived.RangeFuncLeaves
import Derived.RangeFuncNested
import Derived.Shelf.Abstract
import Derived.Shelf.AbstractIn
import Derived.Shelf.RegionOpen
import Derived.Shelf.SlicesE.Delete
import Derived.Stop.RegionWithIn
import Derived.TacticsInMore
import Derived.Test.YtmidfgjnaebfiaaGreatDoorRows
import Derived.WalkKit
import Derived.WalkSmall
import Derived.Test.YtmidfgjnaebfiaaGreatDoorMgE
/-
  Facts of the program as a whole that every card of this seat leans on: each reckoned by the kernel, each by itself.
-/
namespace Go.Proofs.YtmidfgjnaebfiaaGreatDoor
theorem pf_laid : laidOutB Tryz.prog = true := by kernel_rfl
theorem pf_maps : mapsRowed Tryz.prog = true := by kernel_rfl
theorem pf_stops : (Tryz.prog.stops == []) = true := by kernel_rfl
theorem pf_knobs : (Tryz.prog.stopKnobs == []) = true := by kernel_rfl
theorem pf_heard : Tryz.prog.stopsHeard = true := by kernel_rfl
theorem pf_enter : Tryz.prog.mayEnter = true := by kernel_rfl
theorem pf_prog : Tryz.pinned.checked.prog = Tryz.prog := by kernel_rfl
end Go.Proofs.YtmidfgjnaebfiaaGreatDoor
/-
  IsTagged, on both sides, and its law.
-/
namespace Go.Proofs.YtmidfgjnaebfiaaGreatDoor
open Go.ChangeShapes Go.WideShapes Go.ChangeAt Go.RowKit
theorem tag_ne {a b : ByteArray} (h : a ≠ b) : (a.toList == b.toList) = false := by
  rw [beq_eq_false_iff_ne]
  intro e
  rw [ByteArray.toList_eq, ByteArray.toList_eq] at e
  exact h (ByteArray.ext (Array.ext' e))
def tagB (l : List ByteArray) (t : ByteArray) : Bool := l.any fun x => decide (x = t)
theorem tagB_yes {l : List ByteArray} {k : Nat} {t : ByteArray} (h : l[k]? = some t) : tagB l t = true :=
  List.any_eq_true.2 ⟨t, List.mem_of_getElem? h, by simp⟩
theorem tagB_no {l : List ByteArray} {t : ByteArray} (h : ∀ (j : Nat) x, l[j]? = some x → x ≠ t) : tagB l t = false := by
  rw [← Bool.not_eq_true]
  intro e
  obtain ⟨x, hx, hd⟩ := List.any_eq_true.1 e
  obtain ⟨j, hj⟩ := List.getElem?_of_mem hx
  exact h j x hj (by simpa using hd)
theorem tret_bool {a b : Bool} (h : a = b) : Ending.returned (.bool a) = Ending.returned (.bool b) := by rw [h]
theorem tret_int {a b : Int} (h : a = b) : Ending.returned (.int .i64 a) = Ending.returned (.int .i64 b) := by rw [h]
set_option maxHeartbeats 2000000 in
theorem specTagged_any (w : World) (a : Option Addr) (cap : Nat) (l : List ByteArray) (t : ByteArray) (hl : l.length ≤ 1048576) (hi : TIn w a l) :
    Calls Tryz.prog 163 #[.slice a l.length cap, .string t] w fun e w' => e = .returned (.bool (tagB l t)) ∧ w' = w := by
  have HI : Hid (TIn w a l) := hi
  clear hi
  generalize hnn : l.length = n at *
  have HN : Hid (l.length = n) := hnn
  clear hnn
  go_enter Tryz.func163, Tryz.ntmps163
  go_wp2_with fail
  go_loopw [5] (fun i wr => ∃ k : Nat, k ≤ n ∧ i = .int .i64 k ∧ (∀ (j : Nat) x, j < k → l[j]? = some x → x ≠ t) ∧ wr = w) (fun i _ => n - (intOf i).toNat)
  case atStart => exact ⟨0, Nat.zero_le _, rfl, fun j x hj _ => absurd hj (by omega), rfl⟩
  case round =>
    obtain ⟨k, hk, rfl, hw, rfl⟩ := hrel
    have HW : Hid (∀ (j : Nat) x, j < k → l[j]? = some x → x ≠ t) := hw
    clear hw
    by_cases hlt : k < n
    · obtain ⟨x, hx⟩ : ∃ r, l[k]? = some r := ⟨l[k]'(by have := HN.out; omega), List.getElem?_eq_getElem _⟩
      rcases HI.out with h | ⟨b, off, rfl, hat⟩
      · subst h; simp at hx
      have p1 := hat k x hx
      have HX : Hid (l[k]? = some x) := hx
      have gk : (k : Int) < n := by omega
      clear hx hat
      by_cases e : x = t
      · subst e
        have HE : Hid (tagB l x = true) := tagB_yes HX.out
        have hbe : (x.toList == x.toList) = true := by simp
        go_wp2_with fail
        go_ret
        exact ⟨tret_bool HE.out.symm, rfl⟩
      · have hbe := tag_ne e
        have HXE : Hid (x ≠ t) := e
        clear e
        go_wp2_with fail
        go_roundw
        case rel =>
          refine ⟨k + 1, by omega, by go_num, fun j y hj hy => ?_, by trivial⟩
          by_cases e : j = k
          · subst e
            rw [HX.out] at hy
            obtain rfl := Option.some.inj hy
            exact HXE.out
          · exact HW.out j y (by omega) hy
        case measure => simp [intOf]; omega
    · have HE : Hid (tagB l t = false) := tagB_no fun j x hx => HW.out j x (by have := (List.getElem?_eq_some_iff.1 hx).1; have := HN.out; omega) hx
      go_wp2_with fail
      go_ret
      exact ⟨tret_bool HE.out.symm, rfl⟩
/-- Where a text stands first, or -1. -/
def TagAt (l : List ByteArray) (t : ByteArray) (e : Ending) : Prop := ∃ i : Int, e = .returned (.int .i64 i) ∧ -1 ≤ i ∧ decide (0 ≤ i) = tagB l t
set_option maxHeartbeats 2000000 in
theorem slicesIndex_any (w : World) (a : Option Addr) (cap : Nat) (l : List ByteArray) (t : ByteArray) (hl : l.length ≤ 1048576) (hi : TIn w a l) :
    Calls Tryz.prog 216 #[.slice a l.length cap, .string t] w fun e w' => TagAt l t e ∧ w' = w := by
  have HI : Hid (TIn w a l) := hi
  clear hi
  generalize hnn : l.length = n at *
  have HN : Hid (l.length = n) := hnn
  clear hnn
  go_enter Tryz.func216, Tryz.ntmps216
  go_wp2_with fail
  go_loopw [8] (fun i wr => ∃ k : Nat, k ≤ n ∧ i = .int .i64 k ∧ (∀ (j : Nat) x, j < k → l[j]? = some x → x ≠ t) ∧ wr = w) (fun i _ => n - (intOf i).toNat)
  case atStart => exact ⟨0, Nat.zero_le _, rfl, fun j x hj _ => absurd hj (by omega), rfl⟩
  case round =>
    obtain ⟨k, hk, rfl, hw, rfl⟩ := hrel
    have HW : Hid (∀ (j : Nat) x, j < k → l[j]? = some x → x ≠ t) := hw
    clear hw
    by_cases hlt : k < n
    · obtain ⟨x, hx⟩ : ∃ r, l[k]? = some r := ⟨l[k]'(by have := HN.out; omega), List.getElem?_eq_getElem _⟩
      rcases HI.out with h | ⟨b, off, rfl, hat⟩
      · subst h; simp at hx
      have p1 := hat k x hx
      have HX : Hid (l[k]? = some x) := hx
      have gk : (k : Int) < n := by omega
      clear hx hat
      by_cases e : x = t
      · subst e
        have HE : Hid (tagB l x = true) := tagB_yes HX.out
        have hbe : (x.toList == x.toList) = true := by simp
        go_wp2_with fail
        go_ret
        exact ⟨⟨_, rfl, by omega, by rw [HE.out]; simp⟩, rfl⟩
      · have hbe := tag_ne (Ne.symm e)
        have HXE : Hid (x ≠ t) := e
        clear e
        go_wp2_with fail
        go_roundw
        case rel =>
          refine ⟨k + 1, by omega, by go_num, fun j y hj hy => ?_, by trivial⟩
          by_cases e : j = k
          · subst e
            rw [HX.out] at hy
            obtain rfl := Option.some.inj hy
            exact HXE.out
          · exact HW.out j y (by omega) hy
        case measure => simp [intOf]; omega
    · have HE : Hid (tagB l t = false) := tagB_no fun j x hx => HW.out j x (by have := (List.getElem?_eq_some_iff.1 hx).1; have := HN.out; omega) hx
      go_wp2_with fail
      go_ret
      exact ⟨⟨-1, rfl, by omega, by rw [HE.out]; simp⟩, rfl⟩
set_option maxHeartbeats 1000000 in
theorem implTagged_any (w : World) (a : Option Addr) (cap : Nat) (l : List ByteArray) (t : ByteArray) (hl : l.length ≤ 1048576) (hi : TIn w a l) :
    Calls Tryz.prog 165 #[.slice a l.length cap, .string t] w fun e w' => e = .returned (.bool (tagB l t)) ∧ w' = w := by
  have HI : Hid (Calls Tryz.prog 216 #[.slice a l.length cap, .string t] w fun e w' => TagAt l t e ∧ w' = w) := slicesIndex_any w a cap l t hl hi
  have HC : Hid (Calls Tryz.prog 195 #[.slice a l.length cap, .string t] w fun e w' => e = .returned (.bool (tagB l t)) ∧ w' = w) := by
    clear hi
    generalize l.length = n at *
    show Calls _ _ _ _ _
    go_enter Tryz.func195, Tryz.ntmps195
    go_wp2_with fail
    refine HI.out.mono ?_
    rintro e w1 ⟨⟨i, rfl, _, hi⟩, rfl⟩
    have HD : Hid (decide (0 ≤ i) = tagB l t) := hi
    clear hi
    go_wp2_with fail
    go_ret
    exact ⟨tret_bool HD.out, rfl⟩
  clear hi HI
  generalize l.length = n at *
  go_enter Tryz.func165, Tryz.ntmps165
  go_wp2_with fail
  refine HC.out.mono ?_
  rintro e w1 ⟨rfl, rfl⟩
  go_wp2_with fail
  go_ret
  exact ⟨rfl, rfl⟩
end Go.Proofs.YtmidfgjnaebfiaaGreatDoor
/-
  The keys of entries that are meant, by the model.
-/
namespace Go.Proofs.YtmidfgjnaebfiaaGreatDoor
open Go.ChangeShapes Go.WideShapes Go.ChangeAt Go.RowKit Go.Sort
/-- The keys of those that are meant. -/
def keysP (p : Ent → Bool) (L : List Ent) : List ByteArray := (L.filter p).map Ent.key
def tagP (tag : ByteArray) (x : Ent) : Bool := tagB x.ts tag
theorem keysP_next {p : Ent → Bool} {l : List (Ent × EntR)} {k : Nat} {q : Ent × EntR} (h : l[k]? = some q) : keysP p ((l.take (k + 1)).map Prod.fst) = if p q.1 then keysP p ((l.take k).map Prod.fst) ++ [q.1.key] else keysP p ((l.take k).map Prod.fst) := by
  unfold keysP
  rw [take_next h, List.map_append, List.filter_append]
  cases hk : p q.1 <;> simp [hk]
theorem keysP_len (p : Ent → Bool) (L : List Ent) : (keysP p L).length ≤ L.length := by unfold keysP; rw [List.length_map]; exact List.length_filter_le _ _
theorem RowT.made0 (w : World) (base : Nat) (hb : base ≤ w.heap.size) : RowT (w.alloc (.cells #[] 9)) base (.slice (some ⟨w.heap.size, 0, none⟩) 0 0) [] := World.ownsRow_made w #[] 0 hb (by unfold maxLen; omega) rfl
theorem RowT.below {w w' : World} {base : Nat} {v : Value} {l : List ByteArray} (h : RowT w base v l) (hb : Below w.heap.size w w') : RowT w' base v l := row_below h hb
theorem RowT.lower {w : World} {base b0 : Nat} {v : Value} {l : List ByteArray} (h : RowT w base v l) (hb : b0 ≤ base) : RowT w b0 v l := row_lower h hb
theorem RowT.nil (w : World) (base : Nat) : RowT w base (.slice none 0 0) [] := World.ownsRow_nil _ _ _ _
theorem cTexts_app (l m : List ByteArray) : cTexts (l ++ m) = cTexts l ++ cTexts m := by simp [cTexts]
/-- A text is appended. -/
theorem RowT.app {w w1 w3 : World} {base g cap n : Nat} {va : Option Addr} {vc : Nat} {l : List ByteArray} {t : ByteArray} (hn : l.length = n) (hs : base ≤ w1.heap.size) (hO : w1.ownsRow base 9 1 (.slice va n vc) n (cTexts l)) (h1 : w3.ownsRow base 9 1 (.slice (some ⟨g, 0, none⟩) (n + 1) cap) (n + 1) (cTexts l ++ [.string t])) (h2 : w1.grownBy w3 (Value.slice va n vc).ownBlock) (hb : Below w.heap.size w w1) (hbw : base = w.heap.size) : RowT w3 base (.slice (some ⟨g, 0, none⟩) (n + 1) cap) (l ++ [t]) ∧ Below w.heap.size w w3 := by
  subst hn hbw
  refine ⟨?_, hb.trans ((Below.refl _ _).grown h2 hs (fun q hq => row_ge hO q hq))⟩
  unfold RowT
  rw [List.length_append, cTexts_app]
  exact h1
theorem cell_str (w : World) (t : ByteArray) (T : TypeId) : ∀ j u, ([Value.string t] : List Value)[j]? = some u → (w.alloc (.cells #[.string t] T)).cell? ((⟨w.heap.size, 0, none⟩ : Addr).add j) = some u := by
  intro j u hj
  match j, hj with
  | 0, hj => simp at hj; subst hj; rw [cadd]; simp
/-- While keys are told: where the row of all entries lies, and the row of keys. -/
structure KW (w w1 : World) (av : Value) (al : List (Ent × EntR)) (v : Value) (X : World) : Prop where
  b : Below w.heap.size w X
  all : OwnE X (w.heap.size + 1) av al
  far : ∀ q, v.ownBlock = some q → q = w.heap.size ∨ w1.heap.size ≤ q
  lt : ∀ q, av.ownBlock = some q → q < w1.heap.size
  le : w1.heap.size ≤ X.heap.size
theorem KW.below {w w1 X X' : World} {av v : Value} {al : List (Ent × EntR)} (h : KW w w1 av al v X) (hb : Below X.heap.size X X') : KW w w1 av al v X' :=
  ⟨h.b.trans (hb.mono h.b.size), h.all.below hb, h.far, h.lt, Nat.le_trans h.le hb.size⟩
theorem KW.app {w w1 X X' : World} {av v v' : Value} {al : List (Ent × EntR)} {g : Nat} (h : KW w w1 av al v X) (hg : X.grownBy X' v.ownBlock) (hb : Below w.heap.size w X') (hv : v'.ownBlock = some g) (h3 : v.ownBlock = some g ∨ g = X.heap.size) : KW w w1 av al v' X' := by
  refine ⟨hb, World.ownsRow.kept h.all hg ?_, fun q hq => ?_, h.lt, Nat.le_trans h.le hg.size⟩
  · cases e : av.ownBlock with
    | none => exact .inl rfl
    | some q =>
      refine .inr fun e2 => ?_
      have h1 := own_geE h.all q e
      have h2 := h.lt q e
      rcases h.far q e2.symm with h4 | h4 <;> omega
  · rw [hv] at hq
    obtain rfl := Option.some.inj hq
    rcases h3 with h3 | rfl
    · exact h.far _ h3
    · exact .inr h.le
set_option maxRecDepth 100000 in
set_option maxHeartbeats 8000000 in
theorem l9Tagged_at (w : World) (S : Nat) (tag : ByteArray) (ta ka : Option Addr) (tc kc : Nat) (tl kl : List (Ent × EntR)) (c2 : w.cell? ⟨S, 2, none⟩ = some (.slice ta tl.length tc)) (c3 : w.cell? ⟨S, 3, none⟩ = some (.slice ka kl.length kc)) (hl : tl.length + kl.length ≤ 1000000) (hf : ∀ q ∈ tl ++ kl, EntFit q.1) (ht : EntsIn w ta tl) (hk : EntsIn w ka kl) :
    Calls Tryz.prog 109 #[.pointer (some ⟨S, 0, none⟩), .string tag] w fun e w' => (∃ v, e = .returned v ∧ RowT w' w.heap.size v (keysP (tagP tag) (tl.map Prod.fst ++ kl.map Prod.fst))) ∧ Below w.heap.size w w' := by
  obtain ⟨i0, hi0, hz0, hz1, hz2⟩ := info_parts cTextI
  obtain ⟨W, hW⟩ : ∃ W, W = w.alloc (.cells #[] 9) := ⟨_, rfl⟩
  have HW : Hid (W = w.alloc (.cells #[] 9)) := hW
  have bW : Below w.heap.size w W := by rw [hW]; exact (Below.refl _ _).alloc (Nat.le_refl _) _
  have hS : S < w.heap.size := block_lt_of_cell c2
  have CA : Hid (Calls Tryz.prog 123 #[.pointer (some ⟨S, 0, none⟩)] W fun e w' => (∃ v, e = .returned v ∧ OwnE w' W.heap.size v (tl ++ kl)) ∧ Below W.heap.size W w') := l8All_any W S 0 ta ka tc kc tl kl (by rw [bW.cell (p := ⟨S, 0 + 2, none⟩) hS]; exact c2) (by rw [bW.cell (p := ⟨S, 0 + 3, none⟩) hS]; exact c3) hl (ht.keep bW) (hk.keep bW)
  have HIN : Hid (∀ X, Below w.heap.size w X → ∀ q ∈ tl ++ kl, EntIn X q.1 q.2) := fun X hX q hq' => by
    rcases List.mem_append.1 hq' with h | h
    · rcases ht.keep hX with e | ⟨b, off, _, hat⟩
      · subst e; simp at h
      · obtain ⟨i, hi⟩ := List.mem_iff_getElem?.1 h; exact hat.in hi
    · rcases hk.keep hX with e | ⟨b, off, _, hat⟩
      · subst e; simp at h
      · obtain ⟨i, hi⟩ := List.mem_iff_getElem?.1 h; exact hat.in hi
  have HF : Hid (∀ q ∈ tl ++ kl, EntFit q.1) := hf
  have HR0 : Hid (RowT W w.heap.size (.slice (some ⟨w.heap.size, 0, none⟩) 0 0) [] ∧ Below w.heap.size w W) := ⟨by rw [hW]; exact RowT.made0 w _ (Nat.le_refl _), bW⟩
  have HWS : Hid (w.heap.size + 1 ≤ W.heap.size) := by rw [hW]; simp [Hid]
  rw [← List.map_append]
  have hln : (tl ++ kl).length ≤ 1000000 := by rw [List.length_append]; exact hl
  clear hW bW c2 c3 ht hk hf hS hl
  generalize tl ++ kl = al at *
  go_enter Tryz.func109, Tryz.ntmps109
  go_wp2_with fail
  rw [← HW.out]
  refine CA.out.mono ?_
  rintro e w1 ⟨⟨v, rfl, ho⟩, hb1⟩
  have hbb := HR0.out.2.trans (hb1.mono HR0.out.2.size)
  obtain ⟨a, c, rfl, _, hi⟩ := ho.at (HIN.out _ hbb)
  have K1 : Hid (KW w w1 (.slice a al.length c) al (.slice (some ⟨w.heap.size, 0, none⟩) 0 0) w1 ∧ RowT w1 w.heap.size (.slice (some ⟨w.heap.size, 0, none⟩) 0 0) []) := ⟨⟨hbb, ho.lower HWS.out, fun q hq => .inl (Option.some.inj hq).symm, fun q hq => (World.ownsRow.lt ho q hq).2, Nat.le_refl _⟩, HR0.out.1.below hb1⟩
  clear HW CA hb1 hbb ho hi HR0 HWS
  obtain ⟨n, hn0⟩ : ∃ n, al.length = n := ⟨_, rfl⟩
  rw [hn0] at hln K1 ⊢
  have HN : Hid (al.length = n) := hn0
  clear hn0
  go_wp2_with fail
  go_loopw [5, 7] (fun v i wr => ∃ k : Nat, k ≤ n ∧ i = .int .i64 (k : Int) ∧ RowT wr w.heap.size v (keysP (tagP tag) ((al.take k).map Prod.fst)) ∧ KW w w1 (.slice a n c) al v wr) (fun _ i _ => n - (intOf i).toNat)
  case atStart => exact ⟨0, Nat.zero_le _, rfl, by simpa [keysP] using K1.out.2, K1.out.1⟩
  case round =>
    obtain ⟨k, hk, rfl, ho, hkw⟩ := hrel
    clear K1
    by_cases hlt : k < n
    · obtain ⟨⟨x, r⟩, hr⟩ : ∃ r, al[k]? = some r := ⟨al[k]'(by have := HN.out; omega), List.getElem?_eq_getElem _⟩
      have hin : EntsIn wr a al := by
        obtain ⟨a', c', e', _, hi⟩ := hkw.all.at (HIN.out _ hkw.b)
        simp only [Value.slice.injEq] at e'
        rw [e'.1]; exact hi
      rcases hin with h | ⟨b, off, rfl, hat⟩
      · subst h; simp at hr
      have cc := hat.cells hr
      have p0 := cc.1
      have p11 := cc.2.2.2.2.2.2.2.2.2.2.2.1
      simp only at p0 p11
      have ft := HF.out (x, r) (List.mem_of_getElem? hr)
      have CT : Hid (Calls Tryz.prog 163 #[.slice r.ta x.ts.length r.tc, .string tag] wr fun e w' => e = .returned (.bool (tagP tag x)) ∧ w' = wr) := specTagged_any wr r.ta r.tc x.ts tag ft.t (hat.in hr).k
      have hnx := keysP_next (p := tagP tag) hr
      simp only at hnx
      have hle : (keysP (tagP tag) ((al.take k).map Prod.fst)).length ≤ 1000000 := by
        have := keysP_len (tagP tag) ((al.take k).map Prod.fst)
        rw [List.length_map, List.length_take] at this
        omega
      obtain ⟨m, hm⟩ : ∃ m, m = keysP (tagP tag) ((al.take k).map Prod.fst) := ⟨_, rfl⟩
      rw [← hm] at ho hnx hle
      obtain ⟨va, vc, rfl, hvc⟩ := row_form ho
      have HO : Hid (RowT wr w.heap.size (.slice va m.length vc) m) := ho
      have HB : Hid (KW w w1 (.slice (some ⟨b, off, none⟩) n c) al (.slice va m.length vc) wr) := hkw
      have gk : (k : Int) < n := by omega
      have gk0 : (0 : Int) ≤ k := by omega
      clear hat hr hm ho hkw cc ft HF HIN
      cases he : tagP tag x
      · rw [he] at hnx CT
        simp only [Bool.false_eq_true, if_false] at hnx
        have HA : Hid (RowT wr w.heap.size (.slice va m.length vc) (keysP (tagP tag) ((al.take (k + 1)).map Prod.fst)) ∧ KW w w1 (.slice (some ⟨b, off, none⟩) n c) al (.slice va m.length vc) wr) := ⟨by rw [hnx]; exact HO.out, HB.out⟩
        clear hnx HO HB he
        generalize m.length = mn at *
        go_wp2_with fail
        refine CT.out.mono ?_
        rintro e w2 ⟨rfl, rfl⟩
        clear CT
        go_wp2_with fail
        go_roundw
        case rel => exact ⟨k + 1, by omega, by go_num, HA.out.1, HA.out.2⟩
        case measure => simp [intOf]; omega
      · rw [he] at hnx CT
        simp only [if_true] at hnx
        obtain ⟨xk, hxk⟩ : ∃ t, x.key = t := ⟨_, rfl⟩
        rw [hxk] at hnx p0
        have K2 : Below wr.heap.size wr (wr.alloc (.cells #[.string xk] 9)) := (Below.refl _ _).alloc (Nat.le_refl _) _
        obtain ⟨mn, hmn⟩ : ∃ q, m.length = q := ⟨_, rfl⟩
        have O2 : Hid ((wr.alloc (.cells #[.string xk] 9)).ownsRow w.heap.size 9 1 (.slice va mn vc) mn (cTexts m)) := by
          have := HO.out.below K2
          unfold RowT at this
          rw [hmn] at this
          exact this
        have s2 : Hid (w.heap.size ≤ (wr.alloc (.cells #[.string xk] 9)).heap.size) := by show _ ≤ _; have := K2.size; have := HB.out.b.size; omega
        have HA : Hid (∀ g cap w3, w3.ownsRow w.heap.size 9 1 (.slice (some ⟨g, 0, none⟩) (mn + 1) cap) (mn + 1) (cTexts m ++ [.string xk]) → (wr.alloc (.cells #[.string xk] 9)).grownBy w3 (Value.slice va mn vc).ownBlock → ((Value.slice va mn vc).ownBlock = some g ∨ g = (wr.alloc (.cells #[.string xk] 9)).heap.size) → RowT w3 w.heap.size (.slice (some ⟨g, 0, none⟩) (mn + 1) cap) (keysP (tagP tag) ((al.take (k + 1)).map Prod.fst)) ∧ KW w w1 (.slice (some ⟨b, off, none⟩) n c) al (.slice (some ⟨g, 0, none⟩) (mn + 1) cap) w3) := fun g cap w3 h1 h2 h3 => by
          have := RowT.app (w := w) hmn s2.out O2.out h1 h2 (HB.out.below K2).b rfl
          rw [hnx]
          have hkw := HB.out.below K2
          rw [hmn] at hkw
          exact ⟨this.1, hkw.app h2 this.2 rfl h3⟩
        have HW : Hid (∀ j u, ([Value.string xk] : List Value)[j]? = some u → (wr.alloc (.cells #[.string xk] 9)).cell? ((⟨wr.heap.size, 0, none⟩ : Addr).add j) = some u) := cell_str wr xk _
        rw [hmn] at hle hvc ⊢
        clear K2 hnx HO HB hmn
        go_wp2_with fail
        refine CT.out.mono ?_
        rintro e w2 ⟨rfl, rfl⟩
        clear CT
        go_wp2_with (at_builtin; refine wpList_append_lies _ rfl (.tmp 24) (.tmp 30) 30 rfl w.heap.size 9 i0 _ 1 16 Tryz.underlying30 hi0 hz0 hz1 hz2 rfl (by omega) _ mn (cTexts m) rfl O2.out _ 1 1 [.string xk] rfl rfl HW.out (by simp [Value.oneCell']) (by omega) (by unfold maxLen; omega) (by omega) s2.out _ rfl ?_; intro g cp w3 h1 h2 h3 h4)
        go_roundw
        case rel => exact ⟨k + 1, by omega, by go_num, (HA.out _ _ _ h1 h2 h3).1, (HA.out _ _ _ h1 h2 h3).2⟩
        case measure => simp [intOf]; omega
    · have ek : k = n := by omega
      subst ek
      obtain ⟨va, vc, rfl, _⟩ := row_form ho
      have HE : Hid ((∃ v', Ending.returned (.slice va (keysP (tagP tag) ((al.take k).map Prod.fst)).length vc) = .returned v' ∧ RowT wr w.heap.size v' (keysP (tagP tag) (al.map Prod.fst))) ∧ Below w.heap.size w wr) := ⟨⟨_, rfl, by rw [List.take_of_length_le (by have := HN.out; omega)] at ho ⊢; exact ho⟩, hkw.b⟩
      clear ho hkw
      go_wp2_with fail
      go_ret
      exact HE.out
end Go.Proofs.YtmidfgjnaebfiaaGreatDoor
/-
  Entries that are meant, told by a function value; their keys, by the program.
-/
namespace Go.Proofs.YtmidfgjnaebfiaaGreatDoor
open Go.ChangeShapes Go.WideShapes Go.ChangeAt Go.RowKit Go.Sort
/-- The function value g, bound to lb, tells whether an entry is meant, as long as C holds; what lies below B0 is all that C speaks of. -/
structure PredF (B0 : Nat) (g : Nat) (lb : Array Value) (p : Ent → Bool) (C : World → Prop) : Prop where
  eg : ∀ args X, (callFunc g args).run Tryz.prog X = .ok (.enter g args) X
  keep : ∀ X X', C X → Below B0 X X' → C X'
  call : ∀ X (h : Hdl), C X → HThere X h → h.x.ts.length ≤ 1048576 → Calls Tryz.prog g (#[.pointer (some ⟨h.b, h.o, none⟩)] ++ lb) X fun e X' => e = .returned (.bool (p h.x)) ∧ Below X.heap.size X X'
set_option maxHeartbeats 2000000 in
theorem predAny (B0 : Nat) : PredF B0 112 #[] (fun _ => true) (fun _ => True) := by
  refine ⟨enters_of Tryz.func112 (by kernel_rfl) rfl, fun _ _ _ _ => trivial, fun X h _ _ _ => ?_⟩
  show Calls Tryz.prog 112 #[.pointer (some ⟨h.b, h.o, none⟩)] X _
  go_enter Tryz.func112, Tryz.ntmps112
  go_wp2_with fail
  go_ret
  exact ⟨rfl, Below.refl _ _⟩
set_option maxHeartbeats 4000000 in
theorem predKey (B0 K : Nat) (key : ByteArray) (hK : K < B0) : PredF B0 162 #[.pointer (some ⟨K, 0, none⟩)] (isKey key) (fun X => X.cell? ⟨K, 0, none⟩ = some (.string key)) := by
  refine ⟨enters_of Tryz.func162 (by kernel_rfl) rfl, fun X X' h hb => by rw [hb.cell (p := ⟨K, 0, none⟩) hK]; exact h, fun X h hc ht _ => ?_⟩
  show Calls Tryz.prog 162 #[.pointer (some ⟨h.b, h.o, none⟩), .pointer (some ⟨K, 0, none⟩)] X _
  have c0 := ht.cells.1
  clear ht
  have HE : Hid (isKey key h.x = (h.x.key.toList == key.toList)) := rfl
  generalize isKey key h.x = z at *
  generalize h.x.key = xk at *
  cases he : (xk.toList == key.toList)
  · rw [he] at HE
    go_enter Tryz.func162, Tryz.ntmps162
    go_wp2_with fail
    go_region
    all_goals go_wp2_with fail
    all_goals go_ret
    all_goals exact ⟨by rw [HE.out]; rfl, (Below.refl _ _).drew⟩
  · rw [he] at HE
    go_enter Tryz.func162, Tryz.ntmps162
    go_wp2_with fail
    go_region
    all_goals go_wp2_with fail
    all_goals go_ret
    all_goals exact ⟨by rw [HE.out]; rfl, (Below.refl _ _).drew⟩
set_option maxHeartbeats 4000000 in
theorem predTag (B0 K : Nat) (tag : ByteArray) (hK : K < B0) : PredF B0 164 #[.pointer (some ⟨K, 0, none⟩)] (tagP tag) (fun X => X.cell? ⟨K, 0, none⟩ = some (.string tag)) := by
  refine ⟨enters_of Tryz.func164 (by kernel_rfl) rfl, fun X X' h hb => by rw [hb.cell (p := ⟨K, 0, none⟩) hK]; exact h, fun X h hc ht htl => ?_⟩
  show Calls Tryz.prog 164 #[.pointer (some ⟨h.b, h.o, none⟩), .pointer (some ⟨K, 0, none⟩)] X _
  have c11 := cell_regrown ht.cells.2.2.2.2.2.2.2.2.2.2.2.1
  have cK := cell_regrown hc
  have cE : ∀ d os, Calls Tryz.prog 165 #[.slice h.r.ta h.x.ts.length h.r.tc, .string tag] (grow (redrawn X d) os) fun e w'' => e = .returned (.bool (tagP tag h.x)) ∧ ∃ p : Regrown, w'' = grow (redrawn X p.d) p.os := fun d os => by
    have b := below_regrown X d os
    refine Calls.regrown_of ((implTagged_any _ h.r.ta h.r.tc h.x.ts tag htl (ht.2.keep b).k).mono ?_)
    rintro e w' ⟨rfl, rfl⟩
    exact ⟨rfl, Below.refl _ _⟩
  clear ht hc htl
  generalize tagP tag h.x = z at *
  go_enter Tryz.func164, Tryz.ntmps164
  go_wp2_with fail
  refine wp_region_quiet_below (by kernel_rfl) (by kernel_rfl) ?_
  repeat (go_big_quiet_step ((go_at_call 165; exact cE _ _)))
  refine wpQuiet_nil ?_
  intro w3 hw3
  have KB3 : Hid (Below X.heap.size X w3) := by
    obtain ⟨⟨d, os⟩, rfl⟩ := hw3
    exact below_regrown X d os
  clear c11 cK cE hw3
  go_wp2_with fail
  go_ret
  exact ⟨rfl, KB3.out⟩
theorem keysH_next {p : Ent → Bool} {l : List Hdl} {k : Nat} {q : Hdl} (h : l[k]? = some q) : keysP p ((l.take (k + 1)).map Hdl.x) = if p q.x then keysP p ((l.take k).map Hdl.x) ++ [q.x.key] else keysP p ((l.take k).map Hdl.x) := by
  unfold keysP
  rw [take_next h, List.map_append, List.filter_append]
  cases hk : p q.x <;> simp [hk]
set_option maxRecDepth 100000 in
set_option maxHeartbeats 8000000 in
theorem keysOf_any (w : World) (v1 v2 : Value) (base B0 g : Nat) (lb : Array Value) (p : Ent → Bool) (C : World → Prop) (l1 l2 : List Hdl) (h : TwoP w base v1 v2 l1 l2) (PF : PredF B0 g lb p C) (hC : C w) (hB0 : B0 ≤ w.heap.size) (hl : l1.length + l2.length ≤ 1000) (hth : ∀ h ∈ l1 ++ l2, HThere w h) (hts : ∀ h ∈ l1 ++ l2, h.x.ts.length ≤ 1048576) (hks : ∀ h ∈ l1 ++ l2, h.x.key.size ≤ 1048576) :
    Calls Tryz.prog 137 #[.agg #[v1, v2], .func (.func g) #[] lb] w fun e w' => (∃ v, e = .returned v ∧ RowT w' w.heap.size v (keysP p ((l1 ++ l2).map Hdl.x))) ∧ Below w.heap.size w w' := by
  obtain ⟨i0, hi0, hz0, hz1, hz2⟩ := info_parts cTextI
  obtain ⟨a1, k1, e1, _⟩ := h.a.form
  obtain ⟨a2, k2, e2, _⟩ := h.b.form
  obtain ⟨W, hW⟩ : ∃ W, W = w.alloc (.cells #[v1, v2] 106) := ⟨_, rfl⟩
  have HW : Hid (W = w.alloc (.cells #[v1, v2] 106)) := hW
  have bW : Below w.heap.size w W := by rw [hW]; exact (Below.refl _ _).alloc (Nat.le_refl _) _
  have CA : Hid (Calls Tryz.prog 118 #[.agg #[v1, v2]] W fun e w' => (∃ v, e = .returned v ∧ OwnP w' W.heap.size v (l1 ++ l2)) ∧ Below W.heap.size W w') := shAll_any W v1 v2 base l1 l2 (h.below bW) (by omega)
  have HT : Hid (∀ X, Below w.heap.size w X → ∀ h ∈ l1 ++ l2, X.cell? ⟨h.b, h.o, none⟩ = some (.string h.x.key) ∧ Calls Tryz.prog g (#[.pointer (some ⟨h.b, h.o, none⟩)] ++ lb) X fun e X' => e = .returned (.bool (p h.x)) ∧ Below X.heap.size X X') := fun X hX h hh => ⟨(((hth h hh).keep hX).cells).1, PF.call X h (PF.keep _ _ hC (hX.mono hB0)) ((hth h hh).keep hX) (hts h hh)⟩
  have HKZ : Hid (∀ h ∈ l1 ++ l2, h.x.key.size ≤ 1048576) := hks
  have HB : Hid (Below w.heap.size w W) := bW
  have hln : (l1 ++ l2).length ≤ 1000 := by rw [List.length_append]; exact hl
  have eg := PF.eg
  clear hW bW h hth hl PF hC hts hks
  generalize l1 ++ l2 = al at *
  subst e1
  subst e2
  go_enter Tryz.func137, Tryz.ntmps137
  go_wp2_with fail
  rw [← HW.out]
  refine CA.out.mono ?_
  rintro e w1 ⟨⟨v, rfl, ho⟩, hb1⟩
  obtain ⟨av, ac, rfl, _, hf⟩ := ho.form
  have HB1 : Hid (Below w.heap.size w w1) := HB.out.trans (hb1.mono HB.out.size)
  have HC : Hid (∀ X, Below w1.heap.size w1 X → ∀ (k : Nat) h, al[k]? = some h → ∃ g, av = some ⟨g, 0, none⟩ ∧ X.cell? ⟨g, k, none⟩ = some (.pointer (some ⟨h.b, h.o, none⟩))) := fun X hX k h hk => by
    rcases hf with e | ⟨g, e, _, hg, hc⟩
    · rw [e] at hk; simp at hk
    · exact ⟨g, e, by rw [hX.cell (p := ⟨g, k, none⟩) hg]; exact hc k h hk⟩
  clear hf ho hb1 HB HW CA
  obtain ⟨n, hn⟩ : ∃ n, al.length = n := ⟨_, rfl⟩
  rw [hn] at hln ⊢
  have HN : Hid (al.length = n) := hn
  clear hn
  go_wp2_with fail
  go_loopw [5, 11] (fun v i wr => ∃ k : Nat, k ≤ n ∧ i = .int .i64 (k : Int) ∧ RowT wr w1.heap.size v (keysP p ((al.take k).map Hdl.x)) ∧ Below w1.heap.size w1 wr) (fun _ i _ => n - (intOf i).toNat)
  case atStart => exact ⟨0, Nat.zero_le _, rfl, by simpa [keysP] using RowT.nil w1 w1.heap.size, Below.refl _ _⟩
  case round =>
    obtain ⟨k, hk, rfl, ho, hb⟩ := hrel
    by_cases hlt : k < n
    · obtain ⟨q, hr⟩ : ∃ r, al[k]? = some r := ⟨al[k]'(by have := HN.out; omega), List.getElem?_eq_getElem _⟩
      obtain ⟨g', rfl, p1⟩ := HC.out wr hb k q hr
      have hqm := List.mem_of_getElem? hr
      have HBW : Hid (Below w.heap.size w wr) := HB1.out.trans (hb.mono HB1.out.size)
      have CP := (HT.out wr HBW.out q hqm).2
      have hnx := keysH_next (p := p) hr
      have hle : (keysP p ((al.take k).map Hdl.x)).length ≤ 1000000 := by
        have := keysP_len p ((al.take k).map Hdl.x)
        rw [List.length_map, List.length_take] at this
        omega
      obtain ⟨m, hm⟩ : ∃ m, m = keysP p ((al.take k).map Hdl.x) := ⟨_, rfl⟩
      rw [← hm] at ho hnx hle
      obtain ⟨va, vc, rfl, hvc⟩ := row_form ho
      have HO : Hid (RowT wr w1.heap.size (.slice va m.length vc) m) := ho
      have HBb : Hid (Below w1.heap.size w1 wr) := hb
      have gk : (k : Int) < n := by omega
      have gk0 : (0 : Int) ≤ k := by omega
      have HCL : Hid (∀ X, Below w.heap.size w X → X.cell? ⟨q.b, q.o, none⟩ = some (.string q.x.key)) := fun X hX => (HT.out X hX q hqm).1
      have HZ := HKZ.out q hqm
      clear hr hm ho hb HC HT hqm HKZ
      cases he : p q.x
      · rw [he] at hnx CP
        simp only [Bool.false_eq_true, if_false] at hnx
        have HA : Hid (∀ X, Below wr.heap.size wr X → RowT X w1.heap.size (.slice va m.length vc) (keysP p ((al.take (k + 1)).map Hdl.x)) ∧ Below w1.heap.size w1 X) := fun X hX => ⟨by rw [hnx]; exact HO.out.below hX, HBb.out.trans (hX.mono HBb.out.size)⟩
        clear hnx HO HBb he HCL
        generalize m.length = mn at *
        go_wp2_with (go_at_fn g; refine CP.mono ?_; rintro e w2 ⟨rfl, hb2⟩)
        go_roundw
        case rel => exact ⟨k + 1, by omega, by go_num, (HA.out _ hb2).1, (HA.out _ hb2).2⟩
        case measure => simp [intOf]; omega
      · rw [he] at hnx CP
        simp only [if_true] at hnx
        obtain ⟨xk, hxk⟩ : ∃ t, q.x.key = t := ⟨_, rfl⟩
        rw [hxk] at hnx HCL HZ
        have CCL : Hid (∀ X, Calls Tryz.prog 140 #[.string xk] X fun e w' => e = .returned (.string xk) ∧ Below X.heap.size X w') := fun X => clone_text xk X HZ
        obtain ⟨mn, hmn⟩ : ∃ q, m.length = q := ⟨_, rfl⟩
        have HQ : Hid (∀ X, Below wr.heap.size wr X → (X.alloc (.cells #[.string xk] 9)).ownsRow w1.heap.size 9 1 (.slice va mn vc) mn (cTexts m) ∧ w1.heap.size ≤ (X.alloc (.cells #[.string xk] 9)).heap.size ∧ (∀ g cap w3, w3.ownsRow w1.heap.size 9 1 (.slice (some ⟨g, 0, none⟩) (mn + 1) cap) (mn + 1) (cTexts m ++ [.string xk]) → (X.alloc (.cells #[.string xk] 9)).grownBy w3 (Value.slice va mn vc).ownBlock → RowT w3 w1.heap.size (.slice (some ⟨g, 0, none⟩) (mn + 1) cap) (keysP p ((al.take (k + 1)).map Hdl.x)) ∧ Below w1.heap.size w1 w3)) := fun X hX => by
          have K2 : Below X.heap.size X (X.alloc (.cells #[.string xk] 9)) := (Below.refl _ _).alloc (Nat.le_refl _) _
          have O2 : (X.alloc (.cells #[.string xk] 9)).ownsRow w1.heap.size 9 1 (.slice va mn vc) mn (cTexts m) := by
            have := (HO.out.below hX).below K2
            unfold RowT at this
            rw [hmn] at this
            exact this
          have bX : Below w1.heap.size w1 (X.alloc (.cells #[.string xk] 9)) := HBb.out.trans ((hX.trans (K2.mono hX.size)).mono HBb.out.size)
          refine ⟨O2, bX.size, fun g cap w3 h1 h2 => ?_⟩
          have := RowT.app (w := w1) hmn bX.size O2 h1 h2 bX rfl
          rw [hnx]
          exact this
        rw [hmn] at hle hvc ⊢
        clear hnx HO HBb hmn he
        go_wp2_with (go_at_fn g; refine CP.mono ?_; rintro e w2 ⟨rfl, hb2⟩; have y0 := HCL.out _ (HBW.out.trans (hb2.mono HBW.out.size)))
        refine (CCL.out _).mono ?_
        rintro e w3 ⟨rfl, hb3⟩
        have hb23 := hb2.trans (hb3.mono hb2.size)
        have O2 : Hid _ := (HQ.out w3 hb23).1
        have s2 : Hid _ := (HQ.out w3 hb23).2.1
        have HA : Hid _ := (HQ.out w3 hb23).2.2
        have HW : Hid (∀ j u, ([Value.string xk] : List Value)[j]? = some u → (w3.alloc (.cells #[.string xk] 9)).cell? ((⟨w3.heap.size, 0, none⟩ : Addr).add j) = some u) := cell_str w3 xk _
        clear CP CCL HQ hb2 hb3 hb23 y0
        go_wp2_with (at_builtin; refine wpList_append_lies _ rfl (.tmp 18) (.tmp 24) 30 rfl w1.heap.size 9 i0 _ 1 16 Tryz.underlying30 hi0 hz0 hz1 hz2 rfl (by omega) _ mn (cTexts m) rfl O2.out _ 1 1 [.string xk] rfl rfl HW.out (by simp [Value.oneCell']) (by omega) (by unfold maxLen; omega) (by omega) s2.out _ rfl ?_; intro g cp w4 h1 h2 h3 h4)
        go_roundw
        case rel => exact ⟨k + 1, by omega, by go_num, (HA.out _ _ _ h1 h2).1, (HA.out _ _ _ h1 h2).2⟩
        case measure => simp [intOf]; omega
    · have ek : k = n := by omega
      subst ek
      obtain ⟨va, vc, rfl, _⟩ := row_form ho
      have HE : Hid ((∃ v', Ending.returned (.slice va (keysP p ((al.take k).map Hdl.x)).length vc) = .returned v' ∧ RowT wr w.heap.size v' (keysP p (al.map Hdl.x))) ∧ Below w.heap.size w wr) := ⟨⟨_, rfl, by rw [List.take_of_length_le (by have := HN.out; omega)] at ho ⊢; exact ho.lower HB1.out.size⟩, HB1.out.trans (hb.mono HB1.out.size)⟩
      clear ho hb HC HT HKZ
      go_wp2_with fail
      go_ret
      exact HE.out
end Go.Proofs.YtmidfgjnaebfiaaGreatDoor
/-
  slices.DeleteFunc at a row of pointers of one's own.
-/
namespace Go.Proofs.YtmidfgjnaebfiaaGreatDoor
open Go.ChangeShapes Go.WideShapes Go.ChangeAt Go.RowKit Go.Sort
theorem grow_below {w w' : World} (row : Option Nat) (h : Below w.heap.size w w') : w.grownBy w' row := ⟨h.os, h.tape, h.output, h.size, fun k hk _ => h.block k hk⟩
theorem grow_trans {w w1 w2 : World} {row : Option Nat} (h : w.grownBy w1 row) (k : w1.grownBy w2 row) : w.grownBy w2 row :=
  ⟨k.os.trans h.os, k.tape.trans h.tape, k.output.trans h.output, Nat.le_trans h.size k.size, fun i hi hn => (k.block i (Nat.lt_of_lt_of_le hi h.size) hn).trans (h.block i hi hn)⟩
theorem row_setCells {base g n cap : Nat} {e : TypeId} : ∀ (vs : List Value) (o : Nat) (w : World) (xs : List Value), w.ownsRow base e 1 (.slice (some ⟨g, 0, none⟩) n cap) n xs → ∃ ys, (w.setCells g o vs).ownsRow base e 1 (.slice (some ⟨g, 0, none⟩) n cap) n ys ∧ (∀ k, k < o → ys[k]? = xs[k]?) ∧ w.grownBy (w.setCells g o vs) (some g)
  | [], _, w, xs, h => ⟨xs, h, fun _ _ => rfl, grow_below _ (Below.refl _ _)⟩
  | v :: r, o, w, xs, h => by
    obtain ⟨h1, h2⟩ := World.ownsRow.stored h o v
    obtain ⟨ys, h3, h4, h5⟩ := row_setCells r (o + 1) _ _ h1
    exact ⟨ys, h3, fun k hk => by rw [h4 k (by omega), List.getElem?_set_ne (by omega)], grow_trans h2 h5⟩
theorem row_cut {w : World} {base g n cap i : Nat} {e : TypeId} {xs : List Value} (h : w.ownsRow base e 1 (.slice (some ⟨g, 0, none⟩) n cap) n xs) (hi : i ≤ n) : w.ownsRow base e 1 (.slice (some ⟨g, 0, none⟩) i cap) i (xs.take i) := by
  obtain ⟨hx, h2⟩ := h
  rcases h2 with ⟨h0, _⟩ | ⟨g', cap', cur, hv, hg, hh, hn, hcap, hsz, htake⟩
  · cases h0
  · simp only [Value.slice.injEq, Option.some.injEq, Addr.mk.injEq, and_true, true_and] at hv
    obtain ⟨rfl, rfl⟩ := hv
    refine ⟨by rw [List.length_take]; omega, .inr ⟨g, cap, cur, rfl, hg, hh, by omega, hcap, hsz, ?_⟩⟩
    rw [← htake, List.take_take]
    congr 1
    omega
/-- A function value tells of the handles l whether they are meant, whatever world follows w. -/
structure PredH (lo : Nat) (w : World) (g : Nat) (lb : Array Value) (p : Hdl → Bool) (l : List Hdl) : Prop where
  eg : ∀ args X, (callFunc g args).run Tryz.prog X = .ok (.enter g args) X
  call : ∀ X, Below lo w X → ∀ h ∈ l, Calls Tryz.prog g (#[.pointer (some ⟨h.b, h.o, none⟩)] ++ lb) X fun e X' => e = .returned (.bool (p h)) ∧ Below X.heap.size X X'
theorem PredH.later {lo : Nat} {w w' : World} {g : Nat} {lb : Array Value} {p : Hdl → Bool} {l : List Hdl} (h : PredH lo w g lb p l) (hb : Below lo w w') : PredH lo w' g lb p l := ⟨h.eg, fun X hX => h.call X (hb.trans hX)⟩
theorem PredH.sub {lo : Nat} {w : World} {g : Nat} {lb : Array Value} {p : Hdl → Bool} {l m : List Hdl} (h : PredH lo w g lb p l) (hs : ∀ x ∈ m, x ∈ l) : PredH lo w g lb p m := ⟨h.eg, fun X hX x hx => h.call X hX x (hs x hx)⟩
theorem PredF.h {B0 g : Nat} {lb : Array Value} {p : Ent → Bool} {C : World → Prop} {w : World} {l : List Hdl} (PF : PredF B0 g lb p C) (hC : C w) (hB : B0 ≤ w.heap.size) (hth : ∀ h ∈ l, HThere w h) (hts : ∀ h ∈ l, h.x.ts.length ≤ 1048576) : PredH w.heap.size w g lb (fun h => p h.x) l :=
  ⟨PF.eg, fun X hX h hh => PF.call X h (PF.keep _ _ hC (hX.mono hB)) ((hth h hh).keep hX) (hts h hh)⟩
def IdxR (p : Hdl → Bool) (l : List Hdl) (e : Ending) : Prop := (∃ A h B, l = A ++ h :: B ∧ p h = true ∧ (∀ a ∈ A, p a = false) ∧ e = .returned (.int .i64 (A.length : Int))) ∨ ((∀ h ∈ l, p h = false) ∧ e = .returned (.int .i64 (-1)))
set_option maxRecDepth 100000 in
set_option maxHeartbeats 8000000 in
theorem indexFunc_any (w : World) (lo base g : Nat) (lb : Array Value) (p : Hdl → Bool) (va : Option Addr) (vc : Nat) (l : List Hdl) (ho : OwnP w base (.slice va l.length vc) l) (hl : l.length ≤ 1000) (hlo : lo ≤ w.heap.size) (PH : PredH lo w g lb p l) :
    Calls Tryz.prog 231 #[.slice va l.length vc, .func (.func g) #[] lb] w fun e w' => IdxR p l e ∧ Below w.heap.size w w' := by
  obtain ⟨va', vc', e0, _, hf⟩ := ho.form
  simp only [Value.slice.injEq, true_and] at e0
  obtain ⟨rfl, rfl⟩ := e0
  have HC : Hid (∀ X, Below w.heap.size w X → ∀ (k : Nat) h, l[k]? = some h → ∃ g, va = some ⟨g, 0, none⟩ ∧ X.cell? ⟨g, k, none⟩ = some (.pointer (some ⟨h.b, h.o, none⟩))) := fun X hX k h hk => by
    rcases hf with e | ⟨g, e, _, hg, hc⟩
    · rw [e] at hk; simp at hk
    · exact ⟨g, e, by rw [hX.cell (p := ⟨g, k, none⟩) hg]; exact hc k h hk⟩
  have HP : Hid (∀ X, Below w.heap.size w X → ∀ h ∈ l, Calls Tryz.prog g (#[.pointer (some ⟨h.b, h.o, none⟩)] ++ lb) X fun e X' => e = .returned (.bool (p h)) ∧ Below X.heap.size X X') := fun X hX => PH.call X (hX.mono hlo)
  have eg := PH.eg
  clear hf ho PH
  obtain ⟨n, hn⟩ : ∃ n, l.length = n := ⟨_, rfl⟩
  rw [hn] at hl ⊢
  have HN : Hid (l.length = n) := hn
  clear hn
  go_enter Tryz.func231, Tryz.ntmps231
  go_wp2_with fail
  go_loopw [8] (fun i wr => ∃ A B, l = A ++ B ∧ i = .int .i64 (A.length : Int) ∧ (∀ a ∈ A, p a = false) ∧ Below w.heap.size w wr) (fun i _ => n - (intOf i).toNat)
  case atStart => exact ⟨[], l, rfl, rfl, by simp, Below.refl _ _⟩
  case round =>
    obtain ⟨A, B, hAB, rfl, hA, hb⟩ := hrel
    obtain ⟨k, hk⟩ : ∃ k, A.length = k := ⟨_, rfl⟩
    have hlen : n = k + B.length := by have := HN.out; rw [hAB, List.length_append] at this; omega
    rw [hk]
    cases B with
    | cons q B =>
      simp only [List.length_cons] at hlen
      have hkn : k < n := by omega
      clear hlen
      have hr : l[k]? = some q := by rw [hAB, ← hk]; exact mid_eq _ _ _
      obtain ⟨g', rfl, p1⟩ := HC.out wr hb k q hr
      have CP := HP.out wr hb q (List.mem_of_getElem? hr)
      have gk : (k : Int) < n := by omega
      have gk0 : (0 : Int) ≤ k := by omega
      have HB : Hid (Below w.heap.size w wr) := hb
      have HQ : Hid (l = A ++ q :: B ∧ A.length = k ∧ ∀ a ∈ A, p a = false) := ⟨hAB, hk, hA⟩
      clear hr hb hAB hk hA HC HP
      cases he : p q
      · rw [he] at CP
        have HF : Hid (l = (A ++ [q]) ++ B ∧ (A ++ [q]).length = k + 1 ∧ ∀ a ∈ A ++ [q], p a = false) := ⟨by rw [HQ.out.1]; simp, by simp [HQ.out.2.1], fun a ha => by
          rcases List.mem_append.1 ha with ha | ha
          · exact HQ.out.2.2 a ha
          · simp at ha; subst ha; exact he⟩
        clear HQ he
        go_wp2_with (go_at_fn g; refine CP.mono ?_; rintro e w2 ⟨rfl, hb2⟩)
        go_roundw
        case rel => exact ⟨A ++ [q], B, HF.out.1, by rw [HF.out.2.1]; go_num, HF.out.2.2, HB.out.trans (hb2.mono HB.out.size)⟩
        case measure => simp [intOf]; omega
      · rw [he] at CP
        have HF : Hid (IdxR p l (.returned (.int .i64 (k : Int)))) := .inl ⟨A, q, B, HQ.out.1, he, HQ.out.2.2, by rw [HQ.out.2.1]⟩
        clear HQ he
        go_wp2_with (go_at_fn g; refine CP.mono ?_; rintro e w2 ⟨rfl, hb2⟩)
        go_ret
        exact ⟨HF.out, HB.out.trans (hb2.mono HB.out.size)⟩
    | nil =>
      simp only [List.length_nil] at hlen
      have e : k = n := by omega
      clear hlen
      subst e
      simp only [List.append_nil] at hAB
      subst hAB
      have HF : Hid (IdxR p l (.returned (.int .i64 (-1)))) := .inr ⟨hA, rfl⟩
      have HB : Hid (Below w.heap.size w wr) := hb
      clear hA hk hb HC HP HN
      go_wp2_with fail
      go_ret
      exact ⟨HF.out, HB.out⟩
def keepH (p : Hdl → Bool) (l : List Hdl) : List Hdl := l.filter fun h => !p h
set_option maxRecDepth 100000 in
set_option maxHeartbeats 8000000 in
theorem deleteFunc_any (w : World) (lo base g : Nat) (lb : Array Value) (p : Hdl → Bool) (v : Value) (l : List Hdl) (ho : OwnP w base v l) (hl : l.length ≤ 1000) (hlo : lo ≤ w.heap.size) (hbl : lo ≤ base) (PH : PredH lo w g lb p l) :
    Calls Tryz.prog 215 #[v, .func (.func g) #[] lb] w fun e w' => (∃ v', e = .returned v' ∧ OwnP w' base v' (keepH p l) ∧ v'.ownBlock = v.ownBlock) ∧ w.grownBy w' v.ownBlock := by
  obtain ⟨va, vc, rfl, hvc, hf⟩ := ho.form
  have hzp : ∀ X : World, (zeroValue 101).run Tryz.prog X = .ok (.pointer none) X := fun X => by rfl
  have CI : Hid (Calls Tryz.prog 231 #[.slice va l.length vc, .func (.func g) #[] lb] w fun e w' => IdxR p l e ∧ Below w.heap.size w w') := indexFunc_any w lo base g lb p va vc l ho hl hlo PH
  have HO : Hid (OwnP w base (.slice va l.length vc) l) := ho
  have HPH : Hid (PredH lo w g lb p l) := PH
  have eg := PH.eg
  have HLO : Hid (lo ≤ w.heap.size ∧ lo ≤ base) := ⟨hlo, hbl⟩
  clear ho PH
  obtain ⟨n, hn⟩ : ∃ n, l.length = n := ⟨_, rfl⟩
  rw [hn] at hl hvc CI HO ⊢
  have HN : Hid (l.length = n) := hn
  clear hn
  go_enter Tryz.func215, Tryz.ntmps215
  go_wp2_with fail
  refine CI.out.mono ?_
  rintro e w1 ⟨hI, hb1⟩
  rcases hI with ⟨A, h0, B, hAB, hp0, hA, rfl⟩ | ⟨hall, rfl⟩
  · have hgn : ∃ G, va = some ⟨G, 0, none⟩ := by
      rcases hf with e | ⟨G, e, _⟩
      · rw [e] at hAB; simp at hAB
      · exact ⟨G, e⟩
    obtain ⟨G, rfl⟩ := hgn
    clear hf
    have HST : Hid (w1.ownsRow base 101 1 (.slice (some ⟨G, 0, none⟩) n vc) n ((keepH p A).map hP ++ [hP h0] ++ B.map hP)) := by
      have := HO.out.below hb1
      unfold OwnP at this
      rw [HN.out] at this
      have e : keepH p A = A := List.filter_eq_self.2 fun a ha => by simp [hA a ha]
      rw [e, show A.map hP ++ [hP h0] ++ B.map hP = l.map hP from by rw [hAB]; simp]
      exact this
    have hlA : A.length + 1 + B.length = n := by have := HN.out; rw [hAB] at this; simp at this; omega
    have hkA : (keepH p (A ++ [h0])).length = A.length := by
      unfold keepH
      rw [List.filter_append]
      have e : A.filter (fun h => !p h) = A := List.filter_eq_self.2 fun a ha => by simp [hA a ha]
      simp [e, hp0]
    have HK0 : Hid (∃ M B', B' = B ∧ l = (A ++ [h0]) ++ B' ∧ (keepH p (A ++ [h0])).length = A.length ∧ M.length + A.length = A.length + 1 ∧ 0 < M.length ∧ w1.ownsRow base 101 1 (.slice (some ⟨G, 0, none⟩) n vc) n ((keepH p (A ++ [h0])).map hP ++ M ++ B'.map hP) ∧ w.grownBy w1 (some G)) := by
      refine ⟨[hP h0], B, rfl, by rw [hAB]; simp, hkA, by simp; omega, by simp, ?_, grow_below _ hb1⟩
      have e : keepH p (A ++ [h0]) = keepH p A := by unfold keepH; rw [List.filter_append]; simp [hp0]
      rw [e]
      exact HST.out
    have gi1 : IntKind.i64.wrap ((A.length : Int) + 1) = (A.length : Int) + 1 := by unfold IntKind.wrap; simp [IntKind.signed, IntKind.bits]; omega
    have gne : ((A.length : Int) == -1) = false := beq_eq_false_iff_ne.2 (by omega)
    obtain ⟨i0, hi0⟩ : ∃ i, A.length = i := ⟨_, rfl⟩
    rw [hi0] at HK0 gi1 gne hlA ⊢
    clear HST CI hA hp0 hAB hkA HO
    go_wp2_with fail
    go_loopw [5, 6] (fun i j wr => ∃ C B M, l = C ++ B ∧ i = .int .i64 ((keepH p C).length : Int) ∧ j = .int .i64 (C.length : Int) ∧ (keepH p C).length + M.length = C.length ∧ 0 < M.length ∧ wr.ownsRow base 101 1 (.slice (some ⟨G, 0, none⟩) n vc) n ((keepH p C).map hP ++ M ++ B.map hP) ∧ w.grownBy wr (some G)) (fun _ j _ => n - (intOf j).toNat)
    case atStart =>
      obtain ⟨M, B', _, h1, h2, h3, h4, h5, h6⟩ := HK0.out
      exact ⟨A ++ [h0], B', M, h1, by rw [h2], by simp [hi0], by simp [h2, hi0]; omega, h4, h5, h6⟩
    case round =>
      obtain ⟨C, B, M, hCB, rfl, rfl, hM, hM0, hrow, hgr⟩ := hrel
      clear HK0
      obtain ⟨i, hi⟩ : ∃ i, (keepH p C).length = i := ⟨_, rfl⟩
      obtain ⟨j, hj⟩ : ∃ j, C.length = j := ⟨_, rfl⟩
      rw [hi, hj] at hM ⊢
      have hlen : n = j + B.length := by have := HN.out; rw [hCB, List.length_append] at this; omega
      have hbw : Below lo w wr := (Below.refl lo w).grown hgr HLO.out.1 (fun q hq => by
        have := (World.ownsRow.lt hrow q hq).1
        have := HLO.out.2
        omega)
      cases B with
      | cons q B =>
        simp only [List.length_cons] at hlen
        have hjn : j < n := by omega
        have hin : i < n := by omega
        have hij : i < j := by omega
        clear hlen
        have cj : wr.cell? ⟨G, j, none⟩ = some (.pointer (some ⟨q.b, q.o, none⟩)) := by
          rw [World.ownsRow.cellAt hrow j (by omega), List.getElem?_append_right (by simp; omega)]
          simp only [List.length_append, List.length_map, hi]
          rw [show j - (i + M.length) = 0 from by omega]
          rfl
        have CP := HPH.out.call wr hbw q (by rw [hCB]; simp)
        have gj : (j : Int) < n := by omega
        have gj0 : (0 : Int) ≤ j := by omega
        have gi : (i : Int) < n := by omega
        have gi0 : (0 : Int) ≤ i := by omega
        have HR : Hid (wr.ownsRow base 101 1 (.slice (some ⟨G, 0, none⟩) n vc) n ((keepH p C).map hP ++ M ++ (q :: B).map hP) ∧ w.grownBy wr (some G)) := ⟨hrow, hgr⟩
        have HQ : Hid (l = C ++ q :: B ∧ (keepH p C).length = i ∧ C.length = j ∧ i + M.length = j ∧ 0 < M.length) := ⟨hCB, hi, hj, hM, hM0⟩
        clear hrow hgr hbw hCB hi hj hM hM0
        cases he : p q
        · rw [he] at CP
          have HA : Hid (∀ X, Below wr.heap.size wr X → (∃ u, X.cell? ⟨G, i, none⟩ = some u) ∧ X.frozen? ⟨G, i, none⟩ = false ∧ (∃ M', l = (C ++ [q]) ++ B ∧ (keepH p (C ++ [q])).length = i + 1 ∧ (C ++ [q]).length = j + 1 ∧ i + 1 + M'.length = j + 1 ∧ 0 < M'.length ∧ (X.setCell ⟨G, i, none⟩ (.pointer (some ⟨q.b, q.o, none⟩))).ownsRow base 101 1 (.slice (some ⟨G, 0, none⟩) n vc) n ((keepH p (C ++ [q])).map hP ++ M' ++ B.map hP) ∧ w.grownBy (X.setCell ⟨G, i, none⟩ (.pointer (some ⟨q.b, q.o, none⟩))) (some G))) := fun X hX => by
            obtain ⟨q1, q2, q3, q4, q5⟩ := HQ.out
            have hrX := row_below HR.out.1 hX
            obtain ⟨m0, Mt, rfl⟩ : ∃ m0 Mt, M = m0 :: Mt := by cases M with
              | nil => simp at q5
              | cons a b => exact ⟨a, b, rfl⟩
            have hk : keepH p (C ++ [q]) = keepH p C ++ [q] := by unfold keepH; rw [List.filter_append]; simp [he]
            obtain ⟨s1, s2⟩ := World.ownsRow.stored hrX i (.pointer (some ⟨q.b, q.o, none⟩))
            refine ⟨⟨m0, ?_⟩, ?_, Mt ++ [hP q], by rw [q1]; simp, by rw [hk]; simp [q2], by simp [q3], by simp at q4 ⊢; omega, by simp, ?_, grow_trans (grow_trans HR.out.2 (grow_below _ hX)) s2⟩
            · rw [World.ownsRow.cellAt hrX i (by omega), List.append_assoc, List.getElem?_append_right (by simp; omega)]
              simp [q2]
            · exact World.ownsRow.frozenAt hrX i
            · have e : ((keepH p C).map hP ++ (m0 :: Mt) ++ (q :: B).map hP).set i (.pointer (some ⟨q.b, q.o, none⟩)) = (keepH p (C ++ [q])).map hP ++ (Mt ++ [hP q]) ++ B.map hP := by
                rw [hk, List.append_assoc, List.set_append_right _ _ (by simp; omega)]
                simp [q2, hP]
              rw [← e]
              exact s1
          clear HR HQ he
          go_wp2_with (go_at_fn g; refine CP.mono ?_; rintro e w2 ⟨rfl, hb2⟩; obtain ⟨⟨u, hu⟩, hfz, hnx⟩ := HA.out _ hb2; have HX : Hid _ := hnx; clear hnx)
          go_roundw
          case rel =>
            obtain ⟨M', h1, h2, h3, h4, h5, h6, h7⟩ := HX.out
            exact ⟨C ++ [q], B, M', h1, by rw [h2]; go_num, by rw [h3]; go_num, by rw [h2, h3]; exact h4, h5, h6, h7⟩
          case measure => simp [intOf]; omega
        · rw [he] at CP
          have HA : Hid (∀ X, Below wr.heap.size wr X → (∃ M', l = (C ++ [q]) ++ B ∧ (keepH p (C ++ [q])).length = i ∧ (C ++ [q]).length = j + 1 ∧ i + M'.length = j + 1 ∧ 0 < M'.length ∧ X.ownsRow base 101 1 (.slice (some ⟨G, 0, none⟩) n vc) n ((keepH p (C ++ [q])).map hP ++ M' ++ B.map hP) ∧ w.grownBy X (some G))) := fun X hX => by
            obtain ⟨q1, q2, q3, q4, q5⟩ := HQ.out
            have hk : keepH p (C ++ [q]) = keepH p C := by unfold keepH; rw [List.filter_append]; simp [he]
            refine ⟨M ++ [hP q], by rw [q1]; simp, by rw [hk]; exact q2, by simp [q3], by simp; omega, by simp, ?_, grow_trans HR.out.2 (grow_below _ hX)⟩
            have := row_below HR.out.1 hX
            rw [hk]
            rw [show (keepH p C).map hP ++ (M ++ [hP q]) ++ B.map hP = (keepH p C).map hP ++ M ++ (q :: B).map hP from by simp]
            exact this
          clear HR HQ he
          go_wp2_with (go_at_fn g; refine CP.mono ?_; rintro e w2 ⟨rfl, hb2⟩; have HX : Hid _ := HA.out _ hb2)
          go_roundw
          case rel =>
            obtain ⟨M', h1, h2, h3, h4, h5, h6, h7⟩ := HX.out
            exact ⟨C ++ [q], B, M', h1, by rw [h2], by rw [h3]; go_num, by rw [h2, h3]; exact h4, h5, h6, h7⟩
          case measure => simp [intOf]; omega
      | nil =>
        simp only [List.length_nil] at hlen
        have ejn : j = n := by omega
        have hin : i < n := by omega
        clear hlen
        subst ejn
        simp only [List.append_nil] at hCB
        subst hCB
        simp only [List.map_nil, List.append_nil] at hrow
        have hcl : ∀ ty, (Builtin.clear_ #[102] ty #[.slice (some ⟨G, i, none⟩) (j - i) (vc - i)]).run Tryz.prog wr = .ok (.tuple #[]) (wr.setCells G i (List.replicate (j - i) (.pointer none))) := fun ty => Lib.run_clear_slice wr _ _ ty _ Tryz.underlying102 hzp rfl rfl G i _ _ (by omega) (fun t ht => by rw [World.ownsRow.cellAt hrow (i + t) (by omega)]; rw [List.getElem?_eq_getElem (by simp [hi]; omega)]; rfl) (fun t ht => World.ownsRow.frozenAt hrow (i + t))
        have HF : Hid (OwnP (wr.setCells G i (List.replicate (j - i) (.pointer none))) base (.slice (some ⟨G, 0, none⟩) i vc) (keepH p l) ∧ w.grownBy (wr.setCells G i (List.replicate (j - i) (.pointer none))) (some G)) := by
          obtain ⟨ys, h1, h2, h3⟩ := row_setCells (List.replicate (j - i) (.pointer none)) i wr _ hrow
          refine ⟨?_, grow_trans hgr h3⟩
          have hc := row_cut h1 (i := i) (by omega)
          have ey : ys.take i = (keepH p l).map hP := by
            apply List.ext_getElem?
            intro k
            rw [List.getElem?_take]
            by_cases hk : k < i
            · rw [if_pos hk, h2 k hk, List.getElem?_append_left (by simp [hi]; omega)]
            · rw [if_neg hk, List.getElem?_eq_none (by simp [hi]; omega)]
          unfold OwnP
          rw [← ey, hi]
          exact hc
        have gi0 : (0 : Int) ≤ i := by omega
        have gi1 : (i : Int) ≤ j := by omega
        have gi2 : (i : Int) ≤ vc := by omega
        have gjv : (j : Int) ≤ vc := by omega
        have gne2 : ¬ vc = i := by omega
        clear hrow hgr hbw hM hM0 hi hj HPH
        go_wp2_with fail
        go_ret
        exact ⟨⟨_, rfl, HF.out.1, rfl⟩, HF.out.2⟩
  · have e : keepH p l = l := List.filter_eq_self.2 fun a ha => by simp [hall a ha]
    have HF : Hid (OwnP w1 base (.slice va n vc) (keepH p l) ∧ w.grownBy w1 (Value.slice va n vc).ownBlock) := by rw [e]; exact ⟨HO.out.below hb1, grow_below _ hb1⟩
    clear HO CI hall hf hb1 e
    go_wp2_with fail
    go_ret
    exact ⟨⟨_, rfl, HF.out.1, rfl⟩, HF.out.2⟩
end Go.Proofs.YtmidfgjnaebfiaaGreatDoor
/-
  slices.Delete of one pointer of a row of one's own.
-/
namespace Go.Proofs.YtmidfgjnaebfiaaGreatDoor
open Go.ChangeShapes Go.WideShapes Go.ChangeAt Go.RowKit Go.Sort Go.Shelf
def laysDel_ren : Go.Shelf.Ren := ⟨fun | 45 => 192 | n => n, fun | 22 => 102 | 23 => 101 | 3 => 3 | 4 => 4 | 0 => 0 | n => n, fun | n => n⟩
theorem laysDel : Go.Proofs.SlLaysE.n45 Tryz.prog laysDel_ren := {
  mixed := by kernel_rfl
  f45 := ⟨Tryz.f192.name, by decide, Tryz.func192.trans (congrArg some (by kernel_rfl))⟩
  t0 := Tryz.underlying0
  a0 := Tryz.isAgg0
  z0 := Tryz.sizeOf0
  v0 := Tryz.zeroValue0
  t3 := Tryz.underlying3
  a3 := Tryz.isAgg3
  z3 := Tryz.sizeOf3
  v3 := Tryz.zeroValue3
  t4 := Tryz.underlying4
  a4 := Tryz.isAgg4
  z4 := Tryz.sizeOf4
  v4 := Tryz.zeroValue4
  t22 := Tryz.underlying102
  a22 := Tryz.isAgg102
  z22 := Tryz.sizeOf102
  v22 := Tryz.zeroValue102
  a23 := Tryz.isAgg101
  z23 := Tryz.sizeOf101 }
def eH : Option Hdl → Value
  | some h => hP h
  | none => .pointer none
theorem eH_map (l : List Hdl) : (l.map some).map eH = l.map hP := by rw [List.map_map]; rfl
theorem grow_putRow {α : Type} [Inhabited α] (enc : α → Value) (w : World) (q g : Nat) (d : Array α) : w.grownBy (putRow enc (Sort.ahead w q) g 0 d) (some g) :=
  ⟨rfl, rfl, rfl, by simp [putRow, mapBlock, Sort.ahead], fun k _ hn => by
    have : g ≠ k := fun e => hn (by rw [e])
    simp [putRow, mapBlock, Sort.ahead, Array.getElem?_modify, this]⟩
set_option maxRecDepth 100000 in
theorem delOne_any (w : World) (base : Nat) (v : Value) (A : List Hdl) (h0 : Hdl) (B : List Hdl) (ho : OwnP w base v (A ++ h0 :: B)) :
    Calls Tryz.prog 192 #[v, .int .i64 (A.length : Nat), .int .i64 ((A.length + 1 : Nat) : Int)] w fun e w' => (∃ v', e = .returned v' ∧ OwnP w' base v' (A ++ B) ∧ v'.ownBlock = v.ownBlock) ∧ w.grownBy w' v.ownBlock := by
  have hr : w.ownsRow base 101 1 v (A ++ h0 :: B).length (((A ++ h0 :: B).map some).map eH) := by rw [eH_map]; exact ho
  obtain ⟨i0, hi0, hz⟩ : ∃ i, Tryz.prog.info? 101 = some i ∧ i.size = 1 := by
    have := infoPtr
    cases h : Tryz.prog.info? 101 with
    | none => rw [h] at this; cases this
    | some i => rw [h] at this; simp at this; exact ⟨i, rfl, this.2.1⟩
  have hv : v ≠ .slice none 0 0 := fun e => by
    obtain ⟨va, vc, e1, _, h1 | ⟨g, e2, _⟩⟩ := ho.form
    · simp at h1
    · rw [e, e2] at e1; cases e1
  obtain ⟨g, cap, rfl, hg, hlt, hn, hc, hzs, hH⟩ := Lib.holds_of_ownsRow (enc := eH) (zs := (A ++ h0 :: B).map some) hr hv
  have hm : maxLen ≤ 9223372036854775807 := by decide
  have e0 : (A ++ h0 :: B).length = ((A ++ h0 :: B).map some).toArray.size := by simp
  have hzp : ∀ X : World, (zeroValue 101).run Tryz.prog X = .ok (.pointer none) X := fun X => by rfl
  have key := AnyE.slices_Delete (α := Option Hdl) laysDel eH (fun x => by cases x <;> rfl) none hzp i0 hi0 hz g 0 cap A.length (A.length + 1) ((A ++ h0 :: B).map some).toArray w hH (by rw [← e0]; exact hn) (Nat.le_trans hc hm) (Nat.le_succ _) (by simp)
  rw [← e0] at key
  refine Calls.mono (R := _) key ?_
  rintro e w' ⟨rfl, q, rfl⟩
  have hy : (((A ++ h0 :: B).map some).toArray.toList.take A.length ++ ((A ++ h0 :: B).map some).toArray.toList.drop (A.length + 1) ++ List.replicate (A.length + 1 - A.length) none) = (A ++ B).map some ++ [none] := by
    have e5 : ((A ++ h0 :: B).map some).drop (A.length + 1) = B.map some := by
      rw [List.map_append, List.map_cons, List.drop_append, List.drop_eq_nil_of_le (by simp)]
      simp
    rw [List.toList_toArray, e5]
    simp
  rw [hy]
  have hL : (A ++ h0 :: B).length - (A.length + 1 - A.length) = (A ++ B).length := by simp; try omega
  rw [hL]
  have := Lib.ownsRow_putRow (enc := eH) (q := q) (k := (A ++ B).length) (ys := (A ++ B).map some ++ [none]) hr (by simp; try omega) (by simp)
  refine ⟨⟨_, rfl, ?_, rfl⟩, grow_putRow _ _ _ _ _⟩
  have e3 : ((A ++ B).map some ++ [none]).take (A ++ B).length = (A ++ B).map some := by rw [List.take_append_of_le_length (by simp)]; exact List.take_of_length_le (by simp)
  rw [e3, eH_map] at this
  exact this
end Go.Proofs.YtmidfgjnaebfiaaGreatDoor
/-
  slices.Backward at a row of pointers: what its teller does, for every loop body.
-/
namespace Go.Proofs.YtmidfgjnaebfiaaGreatDoor
open Go.ChangeShapes Go.WideShapes Go.ChangeAt Go.RowKit Go.Sort Go.Shelf
attribute [local go_sem] Oper.semAt_some
/-- One of a list, and its place. -/
abbrev AtH (l : List Hdl) := { x : Nat × Hdl // l[x.1]? = some x.2 }
def encB {l : List Hdl} (x : AtH l) : Array Value := #[.int .i64 (x.1.1 : Int), .pointer (some ⟨x.1.2.b, x.1.2.o, none⟩)]
/-- What is told of a list, from its end on. -/
def toldB : Nat → List Hdl → List (Nat × Hdl)
  | _, [] => []
  | k, h :: B => toldB (k + 1) B ++ [(k, h)]
theorem toldB_mem {h : Hdl} : ∀ (l : List Hdl) (k : Nat), h ∈ l → ∃ i, (i, h) ∈ toldB k l
  | [], _, hh => by cases hh
  | q :: B, k, hh => by
    rcases List.mem_cons.1 hh with rfl | hh
    · exact ⟨k, List.mem_append_right _ (by simp)⟩
    · obtain ⟨i, hi⟩ := toldB_mem B (k + 1) hh
      exact ⟨i, List.mem_append_left _ hi⟩
theorem toldB_len : ∀ (l : List Hdl) (k : Nat), (toldB k l).length = l.length
  | [], _ => rfl
  | q :: B, k => by simp [toldB, toldB_len B (k + 1)]
theorem back_any (w : World) (a : Option Addr) (n c : Nat) : Calls Tryz.prog 191 #[.slice a n c] w fun e w' => e = .returned (.func (.func 214) #[] #[.pointer (some ⟨w.heap.size, 0, none⟩)]) ∧ w' = w.alloc (.cells #[.slice a n c] 102) := by
  go_enter Tryz.func191, Tryz.ntmps191
  go_wp2_with fail
  go_ret
  exact ⟨rfl, rfl⟩
set_option maxRecDepth 100000 in
set_option maxHeartbeats 8000000 in
theorem backTell (n : Nat) (hn : 1 ≤ n) (Bt n0 : Nat) (va : Option Addr) (vc : Nat) (l : List Hdl) (hl : l.length ≤ 1000) (w : World) (hn0 : n0 ≤ w.heap.size) (hBt : Bt < n0)
    (hf : l = [] ∨ ∃ g, va = some ⟨g, 0, none⟩ ∧ g < n0 ∧ ∀ (i : Nat) k, l[i]? = some k → w.cell? ⟨g, i, none⟩ = some (hP k)) (hc : w.cell? ⟨Bt, 0, none⟩ = some (.slice va l.length vc)) :
    SeqStopsK Fence.wide n Tryz.prog 214 #[.pointer (some ⟨Bt, 0, none⟩)] (encB (l := l)) (fun A B => Below n0 A B) (fun ys => ys.map (·.1) = toldB 0 l) (fun pre => ∃ A h R, l = A ++ h :: R ∧ pre.map (·.1) = toldB A.length (h :: R)) 1001 w := by
  intro lp J Jx W hW hJ hJx hY h0
  have HG : Hid (∀ X, Below n0 w X → X.cell? ⟨Bt, 0, none⟩ = some (.slice va l.length vc) ∧ ∀ (i : Nat) k, l[i]? = some k → ∃ g, va = some ⟨g, 0, none⟩ ∧ X.cell? ⟨g, i, none⟩ = some (.pointer (some ⟨k.b, k.o, none⟩))) := fun X hX => by
    refine ⟨by rw [hX.cell (p := ⟨Bt, 0, none⟩) hBt]; exact hc, fun i k hk => ?_⟩
    rcases hf with e | ⟨g, e, hg, h1⟩
    · rw [e] at hk; simp at hk
    · exact ⟨g, e, by rw [hX.cell (p := ⟨g, i, none⟩) hg]; exact h1 i k hk⟩
  have HY : Hid (∀ pre x W1, J pre W1 → pre.length < 1001 → YieldAt Fence.wide (n - 1) Tryz.prog lp (encB (l := l) x) W1 fun e W' =>
      (e = .returned (.bool true) ∧ J (pre ++ [x]) W' ∧ Below n0 W1 W') ∨ (e = .returned (.bool false) ∧ Jx (pre ++ [x]) W')) := hY
  have hbW : Below n0 w W := hW.mono hn0
  clear hY hf hc hJ hJx hW
  obtain ⟨m, hm⟩ : ∃ m, l.length = m := ⟨_, rfl⟩
  rw [hm] at hl HG
  have HM : Hid (l.length = m) := hm
  clear hm
  have cB := (HG.out W hbW).1
  have gw : IntKind.i64.wrap ((m : Int) - 1) = (m : Int) - 1 := by unfold IntKind.wrap; simp [IntKind.signed, IntKind.bits]; omega
  refine callsIn_of_wp Tryz.func214 rfl trivial ?_ rfl
  simp only [Tryz.ntmps214, List.size_toArray, List.length_cons, List.length_nil, Nat.reduceAdd, Nat.reduceSub, Array.replicate_succ, Array.replicate_zero, List.push_toArray, List.append_toArray, List.nil_append, List.cons_append]
  gi_wp2
  gi_loopw [3] (fun b wr => ∃ (A R : List Hdl) (pre : List (AtH l)), l = A ++ R ∧ b = .int .i64 ((A.length : Int) - 1) ∧ pre.map (·.1) = toldB A.length R ∧ J pre wr ∧ Below n0 w wr) (fun b _ => (intOf b + 1).toNat)
  case atStart => exact ⟨l, [], [], by simp, by rw [HM.out], rfl, h0, hbW⟩
  case round =>
    obtain ⟨A, R, pre, hAR, rfl, hpre, hJs, hb⟩ := hrel
    have hlen : A.length + R.length = m := by have := HM.out; rw [hAR] at this; simpa using this
    have hpl : pre.length < 1001 := by
      have h1 := congrArg List.length hpre
      rw [List.length_map, toldB_len] at h1
      omega
    rcases List.eq_nil_or_concat A with rfl | ⟨A', h, rfl⟩
    · have g1 : ¬ (0 : Int) ≤ ((([] : List Hdl).length : Int) - 1) := by simp
      have HF : Hid (∃ ys : List (AtH l), ys.map (·.1) = toldB 0 l ∧ J ys wr) := ⟨pre, by rw [hpre]; simp at hAR; rw [hAR]; rfl, hJs⟩
      clear hAR hpre hJs hlen hpl HY HG cB hb
      gi_wp2
      go_end0
      exact ⟨⟨_, rfl⟩, .inl HF.out⟩
    · simp only [List.concat_eq_append] at hAR hpre hlen ⊢
      have hat : l[A'.length]? = some h := by rw [hAR]; simp
      obtain ⟨cb, cr⟩ := HG.out wr hb
      obtain ⟨g, hva, ch⟩ := cr _ _ hat
      subst hva
      obtain ⟨k, hk⟩ : ∃ k, A'.length = k := ⟨_, rfl⟩
      have hkm : k < m := by simp at hlen; omega
      have ek : (((A' ++ [h]).length : Int) - 1) = (k : Int) := by simp [hk]
      rw [ek]
      rw [hk] at hat ch
      obtain ⟨fn, tmps, assign, body, hy, hR⟩ := HY.out pre ⟨(k, h), hat⟩ wr hJs hpl
      dsimp only [encB] at hy
      have HQ : Hid (l = A' ++ h :: R ∧ (pre ++ [(⟨(k, h), hat⟩ : AtH l)]).map (fun x : AtH l => x.1) = toldB k (h :: R) ∧ A'.length = k) := ⟨by rw [hAR]; simp, by rw [List.map_append, hpre]; simp [toldB, hk], hk⟩
      have g0 : (0 : Int) ≤ k := by omega
      have g1 : (k : Int) < m := by omega
      have gw2 : IntKind.i64.wrap ((k : Int) - 1) = (k : Int) - 1 := by unfold IntKind.wrap; simp [IntKind.signed, IntKind.bits]; omega
      clear hAR hpre hlen hpl cB cr ek hk hJs HY gw hkm
      gi_wp2
      refine hR.mono ?_
      rintro e W3 (⟨rfl, hJ4, hk4⟩ | ⟨rfl, hJx4⟩)
      · have HF : Hid (J (pre ++ [⟨(k, h), hat⟩]) W3 ∧ Below n0 w W3) := ⟨hJ4, hb.trans hk4⟩
        clear hJ4 hk4 hy hR cb ch hb
        gi_wp2
        go_roundw
        case rel => exact ⟨A', h :: R, pre ++ [⟨(k, h), hat⟩], HQ.out.1, by rw [HQ.out.2.2], by rw [HQ.out.2.2]; exact HQ.out.2.1, HF.out.1, HF.out.2⟩
        case measure => simp [intOf]; try omega
      · have HF : Hid (Jx (pre ++ [⟨(k, h), hat⟩]) W3) := hJx4
        clear hJx4 hy hR cb ch hb
        gi_wp2
        refine bodyPost_ret (results_none rfl _ _ _) rfl ?_
        exact ⟨⟨_, rfl⟩, .inr ⟨_, ⟨A', h, R, HQ.out.1, by rw [HQ.out.2.2]; exact HQ.out.2.1⟩, HF.out⟩⟩
end Go.Proofs.YtmidfgjnaebfiaaGreatDoor
/-
  2 cells that may be written.
-/
namespace Go.Proofs.YtmidfgjnaebfiaaGreatDoor
open Go.ChangeShapes Go.WideShapes Go.ChangeAt Go.RowKit
structure S2 (w : World) (b : Nat) (v0 v1 : Value) : Prop where
  c0 : w.cell? ⟨b, 0, none⟩ = some v0
  c1 : w.cell? ⟨b, 1, none⟩ = some v1
  fr : ∀ o, w.frozen? ⟨b, o, none⟩ = false
  lt : b < w.heap.size
section
variable {w w' : World} {b : Nat} {v0 v1 : Value}
theorem S2.keep (k : S2 w b v0 v1) (hb : Below w.heap.size w w') : S2 w' b v0 v1 :=
  ⟨by rw [hb.cell (p := ⟨b, 0, none⟩) k.lt]; exact k.c0, by rw [hb.cell (p := ⟨b, 1, none⟩) k.lt]; exact k.c1, fun o => by rw [hb.frozen (p := ⟨b, o, none⟩) k.lt]; exact k.fr o, Nat.lt_of_lt_of_le k.lt hb.size⟩
theorem S2.low (k : S2 w b v0 v1) {B : Nat} (hb : Below B w w') (h : b < B) : S2 w' b v0 v1 :=
  ⟨by rw [hb.cell (p := ⟨b, 0, none⟩) h]; exact k.c0, by rw [hb.cell (p := ⟨b, 1, none⟩) h]; exact k.c1, fun o => by rw [hb.frozen (p := ⟨b, o, none⟩) h]; exact k.fr o, Nat.lt_of_lt_of_le k.lt hb.size⟩
theorem S2.new (w : World) (v0 v1 : Value) (t : TypeId) : S2 (w.alloc (.cells #[v0, v1] t)) w.heap.size v0 v1 := ⟨by simp, by simp, fun o => by simp, by simp⟩
theorem S2.off (k : S2 w b v0 v1) {B i : Nat} {x : Value} (h : B ≠ b) : S2 (w.setCell ⟨B, i, none⟩ x) b v0 v1 := by
  have ne : ∀ o : Nat, (⟨B, i, none⟩ : Addr) ≠ ⟨b, o, none⟩ := fun o q => h (congrArg Addr.block q)
  exact ⟨by rw [World.cell?_setCell_other _ _ _ _ (ne _)]; exact k.c0, by rw [World.cell?_setCell_other _ _ _ _ (ne _)]; exact k.c1, fun o => by rw [World.frozen?_setCell]; exact k.fr o, by simpa using k.lt⟩
theorem S2.above {hi : Nat} (k : S2 w b v0 v1) (h : Above hi w w') (hb : hi ≤ b) : S2 w' b v0 v1 :=
  ⟨by rw [h.cell b 0 hb k.lt]; exact k.c0, by rw [h.cell b 1 hb k.lt]; exact k.c1, fun o => by rw [h.frozen b o hb k.lt]; exact k.fr o, Nat.lt_of_lt_of_le k.lt h.size⟩
end
end Go.Proofs.YtmidfgjnaebfiaaGreatDoor
/-
  Answers that bear names: compared, marked, held.
-/
namespace Go.Proofs.YtmidfgjnaebfiaaGreatDoor
open Go.ChangeShapes Go.WideShapes Go.ChangeAt Go.RowKit Go.Sort
/-- Where the names lie that are handed back. -/
structure NR where
  a3 : Option Addr
  k3 : Nat
  n3 : Nat
def NR.v (r : NR) : Value := .slice r.a3 r.n3 r.k3
def NIn (W : World) (r : NR) (G : List ByteArray) : Prop := TLV W r.v G
def NSto (W : World) (base hi : Nat) (r : NR) (G : List ByteArray) : Prop := TLV W r.v G ∧ ∀ b, r.v.ownBlock = some b → base ≤ b ∧ b < hi
def NHeld (W : World) (r : NR) (G : List ByteArray) : Prop := TLV W r.v (mkTL 1 G.length)
theorem NIn.keep {W W' : World} {r : NR} {G : List ByteArray} (h : NIn W r G) (hb : Below W.heap.size W W') : NIn W' r G := TLV.below h hb
theorem NSto.below {W W' : World} {base hi : Nat} {r : NR} {G : List ByteArray} (h : NSto W base hi r G) (hb : Below W.heap.size W W') : NSto W' base hi r G := ⟨h.1.below hb, h.2⟩
theorem TLV.out {W W' : World} {F : List Nat} {v : Value} {l : List ByteArray} (h : TLV W v l) (o : Out F W W') (hn : ∀ b, v.ownBlock = some b → b ∉ F) : TLV W' v l := by
  rcases h with h | ⟨g, c, rfl, hg, hi, hf⟩
  · exact .inl h
  · have hg' := hn g rfl
    exact .inr ⟨g, c, rfl, Nat.lt_of_lt_of_le hg o.size, fun i q hq => by rw [o.cell g _ hg hg']; exact hi i q hq, fun q => by rw [o.frozen g q hg hg']; exact hf q⟩
theorem NSto.above {W W' : World} {h0 base hi : Nat} {r : NR} {G : List ByteArray} (h : NSto W base hi r G) (ha : Above h0 W W') (hb : h0 ≤ base) : NSto W' base hi r G :=
  ⟨h.1.out (.of_above ha) (fun b e => by have := (h.2 b e).1; simp; omega), h.2⟩
theorem NHeld.below {W W' : World} {r : NR} {G : List ByteArray} (h : NHeld W r G) (hb : Below W.heap.size W W') : NHeld W' r G := TLV.below h hb
theorem NSto.in {W : World} {base hi : Nat} {r : NR} {G : List ByteArray} (h : NSto W base hi r G) : NIn W r G := h.1
theorem TLV.len {W : World} {a : Option Addr} {n k : Nat} {l : List ByteArray} (h : TLV W (.slice a n k) l) : n = l.length := by
  rcases h with ⟨e, rfl⟩ | ⟨g, c, e, _⟩
  · simp only [Value.slice.injEq] at e; exact e.2.1
  · simp only [Value.slice.injEq] at e; exact e.2.1
structure FitG (G : List ByteArray) : Prop where
  n : G.length ≤ 1000
def nNamE (G : List ByteArray) : Nat := 1 + G.length
/-- Names that are handed back, with their code. -/
structure NAns where
  c : Int
  g : List ByteArray
def NamAns (A : NAns) (base : Nat) (e : Ending) (w' : World) : Prop := ∃ r : NR, e = .returned (.agg #[.int .i64 A.c, .slice r.a3 r.n3 r.k3]) ∧ NSto w' base w'.heap.size r A.g
end Go.Proofs.YtmidfgjnaebfiaaGreatDoor
/-
  KeysTagged, by the model and by the program.
-/
namespace Go.Proofs.YtmidfgjnaebfiaaGreatDoor
open Go.ChangeShapes Go.WideShapes Go.ChangeAt Go.RowKit Go.Sort
theorem NamAns.of {A B : NAns} {base : Nat} {e : Ending} {w' : World} (h : NamAns B base e w') (he : A = B) : NamAns A base e w' := he ▸ h
theorem NamAns.got {c : Int} {G : List ByteArray} {base b : Nat} {a : Option Addr} {n k : Nat} {w' : World} (h : RowT w' b (.slice a n k) G) (hb : base ≤ b) : NamAns ⟨c, G⟩ base (.returned (.agg #[.int .i64 c, .slice a n k])) w' :=
  ⟨⟨a, k, n⟩, rfl, h.lv.1, fun q e => ⟨Nat.le_trans hb (h.lv.2 q e), h.lv.1.block_lt q e⟩⟩
theorem NamAns.bad (c : Int) (base : Nat) (w' : World) : NamAns ⟨c, []⟩ base (.returned (.agg #[.int .i64 c, .slice none 0 0])) w' := NamAns.got (RowT.nil w' base) (Nat.le_refl _)
open Classical in
noncomputable def tagA (bu gu : Int) (tl kl : List Ent) (tag : ByteArray) : NAns :=
  if storeC bu gu tl kl ≠ 0 then ⟨storeC bu gu tl kl, []⟩ else ⟨0, keysP (tagP tag) (tl ++ kl)⟩
theorem row_off1T {w : World} {base : Nat} {v : Value} {l : List ByteArray} (h : RowT w base v l) {b i : Nat} (u : Value) (hb : b < base) : RowT (w.setCell ⟨b, i, none⟩ u) base v l := row_off h u hb
set_option maxRecDepth 100000 in
set_option maxHeartbeats 8000000 in
theorem specKeysT_any (w : World) (bu gu : Int) (ta ka : Option Addr) (tc kc : Nat) (tl kl : List (Ent × EntR)) (tag : ByteArray) (hl : tl.length ≤ 1048576) (hk : kl.length ≤ 1048576) (hto : ∀ q ∈ tl ++ kl, EntOk q.1) (hft : ∀ q ∈ tl ++ kl, EntFit q.1) (ht : EntsIn w ta tl) (hq : EntsIn w ka kl) :
    Calls Tryz.prog 66 #[.agg #[.int .i64 bu, .int .i64 gu, .slice ta tl.length tc, .slice ka kl.length kc], .string tag] w fun e w' => NamAns (tagA bu gu (tl.map Prod.fst) (kl.map Prod.fst) tag) w.heap.size e w' ∧ Below w.heap.size w w' := by
  have HF : Hid (∀ X, Below w.heap.size w X → Calls Tryz.prog 54 #[.agg #[.int .i64 bu, .int .i64 gu, .slice ta tl.length tc, .slice ka kl.length kc]] X fun r w' => r = .returned (.int .i64 (storeC bu gu (tl.map Prod.fst) (kl.map Prod.fst))) ∧ Below X.heap.size X w') := fun X hb => specSto_any X bu gu ta ka tc kc tl kl hl hk hto (ht.keep hb) (hq.keep hb)
  have HT : Hid (storeC bu gu (tl.map Prod.fst) (kl.map Prod.fst) = 0 → ∀ X, Below w.heap.size w X → X.cell? ⟨w.heap.size, 2, none⟩ = some (.slice ta tl.length tc) → X.cell? ⟨w.heap.size, 3, none⟩ = some (.slice ka kl.length kc) → Calls Tryz.prog 109 #[.pointer (some ⟨w.heap.size, 0, none⟩), .string tag] X fun e w' => (∃ a n k, e = .returned (.slice a n k) ∧ RowT w' X.heap.size (.slice a n k) (keysP (tagP tag) (tl.map Prod.fst ++ kl.map Prod.fst))) ∧ Below X.heap.size X w') := fun h0 X hX c2 c3 => by
    refine (l9Tagged_at X w.heap.size tag ta ka tc kc tl kl c2 c3 (by have := (storeC_zero h0).2.1; rw [List.length_map, List.length_map] at this; omega) hft (ht.keep hX) (hq.keep hX)).mono ?_
    rintro e w' ⟨⟨v, rfl, ho⟩, hb⟩
    obtain ⟨va, vc, rfl, _⟩ := row_form ho
    exact ⟨⟨va, _, vc, rfl, ho⟩, hb⟩
  obtain ⟨W, hW⟩ : ∃ W, W = (w.alloc (.cells #[.int .i64 bu, .int .i64 gu, .slice ta tl.length tc, .slice ka kl.length kc] 38)).alloc (.cells #[.int .i64 0, .slice none 0 0] 92) := ⟨_, rfl⟩
  have HW : Hid (W = (w.alloc (.cells #[.int .i64 bu, .int .i64 gu, .slice ta tl.length tc, .slice ka kl.length kc] 38)).alloc (.cells #[.int .i64 0, .slice none 0 0] 92)) := hW
  have K0 : Hid (Below w.heap.size w W ∧ S4 W w.heap.size (.int .i64 bu) (.int .i64 gu) (.slice ta tl.length tc) (.slice ka kl.length kc) ∧ S2 W (w.heap.size + 1) (.int .i64 0) (.slice none 0 0) ∧ w.heap.size + 2 ≤ W.heap.size) := by
    rw [hW]
    refine ⟨((Below.refl _ _).alloc (Nat.le_refl _) _).alloc (by simp) _, (S4.new w _ _ _ _ _).keep ((Below.refl _ _).alloc (Nat.le_refl _) _), ?_, by simp⟩
    have := S2.new (w.alloc (.cells #[.int .i64 bu, .int .i64 gu, .slice ta tl.length tc, .slice ka kl.length kc] 38)) (.int .i64 0) (.slice none 0 0) 92
    simpa using this
  obtain ⟨A, hA⟩ : ∃ A, tagA bu gu (tl.map Prod.fst) (kl.map Prod.fst) tag = A := ⟨_, rfl⟩
  rw [hA]
  unfold tagA at hA
  have HA : Hid (_ = A) := hA
  have e0 := K0.out.2.1.c0
  have e1 := K0.out.2.1.c1
  have e2 := K0.out.2.1.c2
  have e3 := K0.out.2.1.c3
  rw [HW.out] at e0 e1 e2 e3
  clear hW hl hk hto hft ht hq hA
  generalize storeC bu gu (tl.map Prod.fst) (kl.map Prod.fst) = sc at *
  generalize tl.length = tn at *
  generalize kl.length = kn at *
  go_enter Tryz.func66, Tryz.ntmps66
  go_wp2_with fail
  rw [← HW.out]
  refine (HF.out _ K0.out.1).mono ?_
  rintro r0 w1 ⟨rfl, hb1⟩
  have K1 : Hid (Below w.heap.size w w1 ∧ S4 w1 w.heap.size (.int .i64 bu) (.int .i64 gu) (.slice ta tn tc) (.slice ka kn kc) ∧ S2 w1 (w.heap.size + 1) (.int .i64 0) (.slice none 0 0) ∧ w.heap.size + 2 ≤ w1.heap.size) := ⟨K0.out.1.trans (hb1.mono K0.out.1.size), K0.out.2.1.keep hb1, K0.out.2.2.1.keep hb1, by have := K0.out.2.2.2; have := hb1.size; omega⟩
  clear K0 HW hb1 HF e0 e1 e2 e3
  by_cases cs : sc = 0
  · subst cs
    have HAe : Hid (A = ⟨0, keysP (tagP tag) (tl.map Prod.fst ++ kl.map Prod.fst)⟩) := by have := HA.out; simp only [ne_eq, not_true_eq_false, if_false] at this; exact this.symm
    clear HA
    go_wp2_with fail
    refine (HT.out (by trivial) _ K1.out.1 K1.out.2.1.c2 K1.out.2.1.c3).mono ?_
    rintro r0 w2 ⟨⟨a, n, k, rfl, ho⟩, hb2⟩
    have HO : Hid (RowT w2 w1.heap.size (.slice a n k) (keysP (tagP tag) (tl.map Prod.fst ++ kl.map Prod.fst))) := ho
    have s2 := K1.out.2.2.1.keep hb2
    have HB : Hid (Below w.heap.size w w2 ∧ w.heap.size + 2 ≤ w1.heap.size) := ⟨K1.out.1.trans (hb2.mono K1.out.1.size), K1.out.2.2.2⟩
    have z0 := s2.c0
    have z1 := s2.c1
    have zf0 := s2.fr 0
    have zf1 := s2.fr 1
    clear s2 hb2 ho K1 HT
    go_wp2_with fail
    refine bodyPost_ret (v := .agg #[.int .i64 0, .slice a n k]) (by simp [results, Tryz.results66, go_sem, z0, z1]) rfl ?_
    have hlt : w.heap.size + 1 < w1.heap.size := by have := HB.out.2; omega
    exact ⟨(NamAns.got (row_off1T (row_off1T HO.out _ hlt) _ hlt) (by omega)).of HAe.out, (HB.out.1.setCell (by simp) _).setCell (by simp) _⟩
  · have HAe : Hid (A = ⟨sc, []⟩) := by have := HA.out; rw [if_pos cs] at this; exact this.symm
    have z0 := K1.out.2.2.1.c0
    have z1 := K1.out.2.2.1.c1
    have zf0 := K1.out.2.2.1.fr 0
    have zf1 := K1.out.2.2.1.fr 1
    have HB : Hid (Below w.heap.size w w1) := K1.out.1
    clear HA K1 HT
    go_wp2_with fail
    refine bodyPost_ret (v := .agg #[.int .i64 sc, .slice none 0 0]) (by simp [results, Tryz.results66, go_sem, z0, z1]) rfl ?_
    exact ⟨(NamAns.bad _ _ _).of HAe.out, (HB.out.setCell (by simp) _).setCell (by simp) _⟩
set_option maxHeartbeats 2000000 in
theorem hasTag_any (w : World) (tag : ByteArray) : Calls Tryz.prog 110 #[.string tag] w fun e w' => e = .returned (.func (.func 164) #[] #[.pointer (some ⟨w.heap.size, 0, none⟩)]) ∧ w'.cell? ⟨w.heap.size, 0, none⟩ = some (.string tag) ∧ w.heap.size < w'.heap.size ∧ Below w.heap.size w w' := by
  go_enter Tryz.func110, Tryz.ntmps110
  go_wp2_with fail
  go_ret
  exact ⟨rfl, by simp, by simp, (Below.refl _ _).alloc (Nat.le_refl _) _⟩
set_option maxHeartbeats 2000000 in
theorem hasKey_any (w : World) (key : ByteArray) : Calls Tryz.prog 108 #[.string key] w fun e w' => e = .returned (.func (.func 162) #[] #[.pointer (some ⟨w.heap.size, 0, none⟩)]) ∧ w'.cell? ⟨w.heap.size, 0, none⟩ = some (.string key) ∧ w.heap.size < w'.heap.size ∧ Below w.heap.size w w' := by
  go_enter Tryz.func108, Tryz.ntmps108
  go_wp2_with fail
  go_ret
  exact ⟨rfl, by simp, by simp, (Below.refl _ _).alloc (Nat.le_refl _) _⟩
theorem entC_sizes {x : Ent} (h : entC x = 0) : x.key.size ≤ 1048576 ∧ x.ts.length ≤ 1048576 := by
  obtain ⟨z1, _, _, _, _, z6, _⟩ := entryC_zero h
  exact ⟨by omega, by omega⟩
set_option maxRecDepth 100000 in
set_option maxHeartbeats 8000000 in
theorem implKeysT_any (w : World) (bu gu : Int) (ta ka : Option Addr) (tc kc : Nat) (tl kl : List (Ent × EntR)) (tag : ByteArray) (hset : SetIs w) (hl : tl.length ≤ 1048576) (hk : kl.length ≤ 1048576) (hto : ∀ q ∈ tl ++ kl, EntOk q.1) (ht : EntsIn w ta tl) (hq : EntsIn w ka kl) :
    Calls Tryz.prog 65 #[.agg #[.int .i64 bu, .int .i64 gu, .slice ta tl.length tc, .slice ka kl.length kc], .string tag] w fun e w' => NamAns (tagA bu gu (tl.map Prod.fst) (kl.map Prod.fst) tag) w.heap.size e w' ∧ Below w.heap.size w w' := by
  have HF : Hid (∀ X, Below w.heap.size w X → Calls Tryz.prog 53 #[.agg #[.int .i64 bu, .int .i64 gu, .slice ta tl.length tc, .slice ka kl.length kc]] X fun r w' => r = .returned (.int .i64 (storeC bu gu (tl.map Prod.fst) (kl.map Prod.fst))) ∧ Below X.heap.size X w') := fun X hb => implSto_any X bu gu ta ka tc kc tl kl (hset.below hb) hl hk hto (ht.keep hb) (hq.keep hb)
  have HSO : Hid (∀ X, Below w.heap.size w X → Calls Tryz.prog 72 #[.agg #[.int .i64 bu, .int .i64 gu, .slice ta tl.length tc, .slice ka kl.length kc]] X fun e w' => (∃ a1 c1 d1 a2 c2 d2, e = .returned (.agg #[.slice a1 c1 d1, .slice a2 c2 d2]) ∧ TwoP w' X.heap.size (.slice a1 c1 d1) (.slice a2 c2 d2) (hdlsA ta tl) (hdlsA ka kl)) ∧ Below X.heap.size X w') := fun X hb => by
    refine (shelvesOf_any X bu gu ta ka tc kc tl kl hl hk (ht.keep hb) (hq.keep hb)).mono ?_
    rintro e w' ⟨⟨v1, v2, rfl, h2⟩, hb'⟩
    obtain ⟨a1, d1, rfl, _⟩ := h2.a.form
    obtain ⟨a2, d2, rfl, _⟩ := h2.b.form
    exact ⟨⟨a1, _, d1, a2, _, d2, rfl, h2⟩, hb'⟩
  have HKO : Hid (storeC bu gu (tl.map Prod.fst) (kl.map Prod.fst) = 0 → ∀ X K v1 v2 base, Below w.heap.size w X → TwoP X base v1 v2 (hdlsA ta tl) (hdlsA ka kl) → K < X.heap.size → X.cell? ⟨K, 0, none⟩ = some (.string tag) → Calls Tryz.prog 137 #[.agg #[v1, v2], .func (.func 164) #[] #[.pointer (some ⟨K, 0, none⟩)]] X fun e w' => (∃ a n k, e = .returned (.slice a n k) ∧ RowT w' X.heap.size (.slice a n k) (keysP (tagP tag) (tl.map Prod.fst ++ kl.map Prod.fst))) ∧ Below X.heap.size X w') := fun h0 X K v1 v2 base hb h hK hc => by
    have hln := (storeC_zero h0).2.1
    rw [List.length_map, List.length_map] at hln
    have hz : ∀ h ∈ hdl2 ta ka tl kl, entC h.x = 0 := fun h hh => storeC_ent h0 h.x (by rw [← hdl2_x ta ka]; exact List.mem_map_of_mem hh)
    refine (keysOf_any X v1 v2 base X.heap.size _ _ (tagP tag) _ (hdlsA ta tl) (hdlsA ka kl) h (predTag X.heap.size K tag hK) hc (Nat.le_refl _) (by rw [hdlsA_len, hdlsA_len]; omega) (hdl2_there (ht.keep hb) (hq.keep hb)) (fun h hh => (entC_sizes (hz h hh)).2) (fun h hh => (entC_sizes (hz h hh)).1)).mono ?_
    rintro e w' ⟨⟨v, rfl, ho⟩, hb'⟩
    have ex : (hdlsA ta tl ++ hdlsA ka kl).map Hdl.x = tl.map Prod.fst ++ kl.map Prod.fst := hdl2_x ta ka tl kl
    rw [ex] at ho
    obtain ⟨va, vc, rfl, _⟩ := row_form ho
    exact ⟨⟨va, _, vc, rfl, ho⟩, hb'⟩
  obtain ⟨W, hW⟩ : ∃ W, W = (w.alloc (.cells #[.int .i64 bu, .int .i64 gu, .slice ta tl.length tc, .slice ka kl.length kc] 38)).alloc (.cells #[.int .i64 0, .slice none 0 0] 92) := ⟨_, rfl⟩
  have HW : Hid (W = (w.alloc (.cells #[.int .i64 bu, .int .i64 gu, .slice ta tl.length tc, .slice ka kl.length kc] 38)).alloc (.cells #[.int .i64 0, .slice none 0 0] 92)) := hW
  have K0 : Hid (Below w.heap.size w W ∧ S4 W w.heap.size (.int .i64 bu) (.int .i64 gu) (.slice ta tl.length tc) (.slice ka kl.length kc) ∧ S2 W (w.heap.size + 1) (.int .i64 0) (.slice none 0 0) ∧ w.heap.size + 2 ≤ W.heap.size) := by
    rw [hW]
    refine ⟨((Below.refl _ _).alloc (Nat.le_refl _) _).alloc (by simp) _, (S4.new w _ _ _ _ _).keep ((Below.refl _ _).alloc (Nat.le_refl _) _), ?_, by simp⟩
    have := S2.new (w.alloc (.cells #[.int .i64 bu, .int .i64 gu, .slice ta tl.length tc, .slice ka kl.length kc] 38)) (.int .i64 0) (.slice none 0 0) 92
    simpa using this
  obtain ⟨A, hA⟩ : ∃ A, tagA bu gu (tl.map Prod.fst) (kl.map Prod.fst) tag = A := ⟨_, rfl⟩
  rw [hA]
  unfold tagA at hA
  have HA : Hid (_ = A) := hA
  have e0 := K0.out.2.1.c0
  have e1 := K0.out.2.1.c1
  have e2 := K0.out.2.1.c2
  have e3 := K0.out.2.1.c3
  rw [HW.out] at e0 e1 e2 e3
  clear hW hl hk hto ht hq hA hset
  generalize storeC bu gu (tl.map Prod.fst) (kl.map Prod.fst) = sc at *
  generalize tl.length = tn at *
  generalize kl.length = kn at *
  go_enter Tryz.func65, Tryz.ntmps65
  go_wp2_with fail
  rw [← HW.out]
  refine (HF.out _ K0.out.1).mono ?_
  rintro r0 w1 ⟨rfl, hb1⟩
  have K1 : Hid (Below w.heap.size w w1 ∧ S4 w1 w.heap.size (.int .i64 bu) (.int .i64 gu) (.slice ta tn tc) (.slice ka kn kc) ∧ S2 w1 (w.heap.size + 1) (.int .i64 0) (.slice none 0 0) ∧ w.heap.size + 2 ≤ w1.heap.size) := ⟨K0.out.1.trans (hb1.mono K0.out.1.size), K0.out.2.1.keep hb1, K0.out.2.2.1.keep hb1, by have := K0.out.2.2.2; have := hb1.size; omega⟩
  clear K0 HW hb1 HF e0 e1 e2 e3
  by_cases cs : sc = 0
  · subst cs
    have HAe : Hid (A = ⟨0, keysP (tagP tag) (tl.map Prod.fst ++ kl.map Prod.fst)⟩) := by have := HA.out; simp only [ne_eq, not_true_eq_false, if_false] at this; exact this.symm
    have HK := HKO.out rfl
    clear HA HKO
    have e0 := K1.out.2.1.c0
    have e1 := K1.out.2.1.c1
    have e2 := K1.out.2.1.c2
    have e3 := K1.out.2.1.c3
    go_wp2_with fail
    refine (HSO.out _ K1.out.1).mono ?_
    rintro r0 w2 ⟨⟨a1, c1, d1, a2, c2, d2, rfl, tp⟩, hb2⟩
    have K2 : Hid (Below w.heap.size w w2 ∧ S2 w2 (w.heap.size + 1) (.int .i64 0) (.slice none 0 0) ∧ w.heap.size + 2 ≤ w2.heap.size ∧ TwoP w2 w1.heap.size (.slice a1 c1 d1) (.slice a2 c2 d2) (hdlsA ta tl) (hdlsA ka kl)) := ⟨K1.out.1.trans (hb2.mono K1.out.1.size), K1.out.2.2.1.keep hb2, by have := K1.out.2.2.2; have := hb2.size; omega, tp⟩
    clear e0 e1 e2 e3 hb2 tp K1 HSO
    go_wp2_with fail
    refine (hasTag_any w2 tag).mono ?_
    rintro r0 w3 ⟨rfl, hc3, hl3, hb3⟩
    have K3 : Hid (Below w.heap.size w w3 ∧ S2 w3 (w.heap.size + 1) (.int .i64 0) (.slice none 0 0) ∧ w.heap.size + 2 ≤ w3.heap.size) := ⟨K2.out.1.trans (hb3.mono K2.out.1.size), K2.out.2.1.keep hb3, by have := K2.out.2.2.1; omega⟩
    have CK := HK w3 w2.heap.size _ _ _ K3.out.1 (K2.out.2.2.2.below hb3) hl3 hc3
    clear hb3 hc3 hl3 K2 HK
    go_wp2_with fail
    refine CK.mono ?_
    rintro r0 w4 ⟨⟨a, n, k, rfl, ho⟩, hb4⟩
    have HO : Hid (RowT w4 w3.heap.size (.slice a n k) (keysP (tagP tag) (tl.map Prod.fst ++ kl.map Prod.fst))) := ho
    have s2 := K3.out.2.1.keep hb4
    have HB : Hid (Below w.heap.size w w4 ∧ w.heap.size + 2 ≤ w3.heap.size) := ⟨K3.out.1.trans (hb4.mono K3.out.1.size), K3.out.2.2⟩
    have z0 := s2.c0
    have z1 := s2.c1
    have zf0 := s2.fr 0
    have zf1 := s2.fr 1
    clear s2 hb4 ho K3 CK
    go_wp2_with fail
    refine bodyPost_ret (v := .agg #[.int .i64 0, .slice a n k]) (by simp [results, Tryz.results65, go_sem, z0, z1]) rfl ?_
    have hlt : w.heap.size + 1 < w3.heap.size := by have := HB.out.2; omega
    exact ⟨(NamAns.got (row_off1T (row_off1T HO.out _ hlt) _ hlt) (by omega)).of HAe.out, (HB.out.1.setCell (by simp) _).setCell (by simp) _⟩
  · have HAe : Hid (A = ⟨sc, []⟩) := by have := HA.out; rw [if_pos cs] at this; exact this.symm
    have z0 := K1.out.2.2.1.c0
    have z1 := K1.out.2.2.1.c1
    have zf0 := K1.out.2.2.1.fr 0
    have zf1 := K1.out.2.2.1.fr 1
    have HB : Hid (Below w.heap.size w w1) := K1.out.1
    clear HA K1 HKO HSO
    go_wp2_with fail
    refine bodyPost_ret (v := .agg #[.int .i64 sc, .slice none 0 0]) (by simp [results, Tryz.results65, go_sem, z0, z1]) rfl ?_
    exact ⟨(NamAns.bad _ _ _).of HAe.out, (HB.out.setCell (by simp) _).setCell (by simp) _⟩
end Go.Proofs.YtmidfgjnaebfiaaGreatDoor
/-
  Shelves from which those that are meant are taken; a store without them, by the program.
-/
namespace Go.Proofs.YtmidfgjnaebfiaaGreatDoor
open Go.ChangeShapes Go.WideShapes Go.ChangeAt Go.RowKit Go.Sort
/-- Two shelves in a variable. -/
structure H2 (w : World) (lo B : Nat) (v1 v2 : Value) (l1 l2 : List Hdl) : Prop where
  c0 : w.cell? ⟨B, 0, none⟩ = some v1
  c1 : w.cell? ⟨B, 1, none⟩ = some v2
  fr : ∀ o, w.frozen? ⟨B, o, none⟩ = false
  tp : TwoP w lo v1 v2 l1 l2
  lt : B < w.heap.size
  le : lo ≤ B
  n1 : v1.ownBlock ≠ some B
  n2 : v2.ownBlock ≠ some B
theorem H2.below {w w' : World} {lo B : Nat} {v1 v2 : Value} {l1 l2 : List Hdl} (h : H2 w lo B v1 v2 l1 l2) (hb : Below w.heap.size w w') : H2 w' lo B v1 v2 l1 l2 :=
  ⟨by rw [hb.cell (p := ⟨B, 0, none⟩) h.lt]; exact h.c0, by rw [hb.cell (p := ⟨B, 1, none⟩) h.lt]; exact h.c1, fun o => by rw [hb.frozen (p := ⟨B, o, none⟩) h.lt]; exact h.fr o, h.tp.below hb, Nat.lt_of_lt_of_le h.lt hb.size, h.le, h.n1, h.n2⟩
theorem H2.new {w : World} {lo : Nat} {v1 v2 : Value} {l1 l2 : List Hdl} (h : TwoP w lo v1 v2 l1 l2) (hlo : lo ≤ w.heap.size) (t : TypeId) : H2 (w.alloc (.cells #[v1, v2] t)) lo w.heap.size v1 v2 l1 l2 :=
  ⟨by simp, by simp, fun o => by simp, h.below ((Below.refl _ _).alloc (Nat.le_refl _) _), by simp, hlo, fun e => by have := h.a.lt _ e; omega, fun e => by have := h.b.lt _ e; omega⟩
/-- The first shelf is another one now. -/
theorem H2.setT {w w1 : World} {lo B : Nat} {v1 v2 u : Value} {l1 l2 m : List Hdl} (h : H2 w lo B v1 v2 l1 l2) (hg : w.grownBy w1 v1.ownBlock) (ho : OwnP w1 lo u m) (hu : u.ownBlock = v1.ownBlock ∨ ∀ q, u.ownBlock = some q → w.heap.size ≤ q) :
    w1.cell? ⟨B, 0, none⟩ = some v1 ∧ w1.frozen? ⟨B, 0, none⟩ = false ∧ H2 (w1.setCell ⟨B, 0, none⟩ u) lo B u v2 m l2 ∧ (lo ≤ w.heap.size → Below lo w (w1.setCell ⟨B, 0, none⟩ u)) := by
  have hBn : some B ≠ v1.ownBlock := fun e => h.n1 e.symm
  have k0 : w1.cell? ⟨B, 0, none⟩ = some v1 := hg.cell h.c0 hBn
  have k1 : w1.cell? ⟨B, 1, none⟩ = some v2 := hg.cell h.c1 hBn
  have kf : ∀ o, w1.frozen? ⟨B, o, none⟩ = false := fun o => (World.frozen?_of_block (hg.block B h.lt hBn)).trans (h.fr o)
  have nu : u.ownBlock ≠ some B := by
    rcases hu with e | e
    · rw [e]; exact h.n1
    · intro e2; have := e B e2; have := h.lt; omega
  have kb : OwnP w1 lo v2 l2 := World.ownsRow.kept h.tp.b hg (by
    rcases h.tp.ne with e | e
    · cases e2 : v2.ownBlock with
      | none => exact .inl rfl
      | some q => right; rw [e]; simp
    · exact .inr fun e2 => e e2.symm)
  refine ⟨k0, kf 0, ⟨World.cell?_setCell_same _ _ _ k0, by rw [World.cell?_setCell_other _ _ _ _ (by intro e; have := congrArg Addr.off e; simp at this)]; exact k1, fun o => by rw [World.frozen?_setCell]; exact kf o, ⟨row_far1 ho _ nu, row_far1 kb _ h.n2, ?_⟩, by simpa using Nat.lt_of_lt_of_le h.lt hg.size, h.le, nu, h.n2⟩, fun hlo => ?_⟩
  · rcases hu with e | e
    · rw [e]; exact h.tp.ne
    · cases e2 : u.ownBlock with
      | none => exact .inl rfl
      | some q => exact .inr fun e3 => by have := e q e2; have := h.tp.b.lt q e3.symm; omega
  · exact ((Below.refl lo w).grown hg hlo (fun q hq => own_geP h.tp.a q hq)).setCell h.le _
theorem H2.setK {w w1 : World} {lo B : Nat} {v1 v2 u : Value} {l1 l2 m : List Hdl} (h : H2 w lo B v1 v2 l1 l2) (hg : w.grownBy w1 v2.ownBlock) (ho : OwnP w1 lo u m) (hu : u.ownBlock = v2.ownBlock ∨ ∀ q, u.ownBlock = some q → w.heap.size ≤ q) :
    w1.cell? ⟨B, 1, none⟩ = some v2 ∧ w1.frozen? ⟨B, 1, none⟩ = false ∧ H2 (w1.setCell ⟨B, 1, none⟩ u) lo B v1 u l1 m ∧ (lo ≤ w.heap.size → Below lo w (w1.setCell ⟨B, 1, none⟩ u)) := by
  have hBn : some B ≠ v2.ownBlock := fun e => h.n2 e.symm
  have k0 : w1.cell? ⟨B, 0, none⟩ = some v1 := hg.cell h.c0 hBn
  have k1 : w1.cell? ⟨B, 1, none⟩ = some v2 := hg.cell h.c1 hBn
  have kf : ∀ o, w1.frozen? ⟨B, o, none⟩ = false := fun o => (World.frozen?_of_block (hg.block B h.lt hBn)).trans (h.fr o)
  have nu : u.ownBlock ≠ some B := by
    rcases hu with e | e
    · rw [e]; exact h.n2
    · intro e2; have := e B e2; have := h.lt; omega
  have ka : OwnP w1 lo v1 l1 := World.ownsRow.kept h.tp.a hg h.tp.ne
  refine ⟨k1, kf 1, ⟨by rw [World.cell?_setCell_other _ _ _ _ (by intro e; have := congrArg Addr.off e; simp at this)]; exact k0, World.cell?_setCell_same _ _ _ k1, fun o => by rw [World.frozen?_setCell]; exact kf o, ⟨row_far1 ka _ h.n1, row_far1 ho _ nu, ?_⟩, by simpa using Nat.lt_of_lt_of_le h.lt hg.size, h.le, h.n1, nu⟩, fun hlo => ?_⟩
  · rcases hu with e | e
    · rw [e]; exact h.tp.ne
    · cases e2 : v1.ownBlock with
      | none => exact .inl rfl
      | some q => exact .inr fun e3 => by have := e q e3.symm; have := h.tp.a.lt q e2; omega
  · exact ((Below.refl lo w).grown hg hlo (fun q hq => own_geP h.tp.b q hq)).setCell h.le _
theorem PredH.up {lo l2 : Nat} {w w' : World} {g : Nat} {lb : Array Value} {p : Hdl → Bool} {l : List Hdl} (h : PredH lo w g lb p l) (hl : lo ≤ l2) (hb : Below lo w w') : PredH l2 w' g lb p l := ⟨h.eg, fun X hX => h.call X (hb.trans (hX.mono hl))⟩
theorem keepH_len (p : Hdl → Bool) (l : List Hdl) : (keepH p l).length ≤ l.length := List.length_filter_le _ _
set_option maxHeartbeats 4000000 in
theorem takeAll_T (w : World) (lo B g : Nat) (lb : Array Value) (p : Hdl → Bool) (v1 v2 : Value) (l1 l2 : List Hdl) (h : H2 w lo B v1 v2 l1 l2) (hl : l1.length ≤ 1000) (hlo : lo ≤ w.heap.size) (PH : PredH lo w g lb p l1) :
    Calls Tryz.prog 194 #[.pointer (some ⟨B, 0, none⟩), .func (.func g) #[] lb] w fun e w' => e = .returned (.tuple #[]) ∧ (∃ u, H2 w' lo B u v2 (keepH p l1) l2) ∧ Below lo w w' := by
  have CD : Hid (Calls Tryz.prog 215 #[v1, .func (.func g) #[] lb] w fun e w' => (∃ a n c, e = .returned (.slice a n c) ∧ w'.cell? ⟨B, 0, none⟩ = some v1 ∧ w'.frozen? ⟨B, 0, none⟩ = false ∧ H2 (w'.setCell ⟨B, 0, none⟩ (.slice a n c)) lo B (.slice a n c) v2 (keepH p l1) l2 ∧ Below lo w (w'.setCell ⟨B, 0, none⟩ (.slice a n c)))) := by
    refine (deleteFunc_any w lo lo g lb p v1 l1 h.tp.a hl hlo (Nat.le_refl _) PH).mono ?_
    rintro e w' ⟨⟨v', rfl, ho, hv⟩, hg⟩
    obtain ⟨a, c, rfl, _⟩ := ho.form
    have := h.setT hg ho (.inl hv)
    exact ⟨a, _, c, rfl, this.1, this.2.1, this.2.2.1, this.2.2.2 hlo⟩
  have c0 := h.c0
  obtain ⟨a0, k0, e0, _⟩ := h.tp.a.form
  clear h PH hl hlo
  subst e0
  generalize l1.length = n1 at *
  go_enter Tryz.func194, Tryz.ntmps194
  go_wp2_with fail
  refine CD.out.mono ?_
  rintro e w1 ⟨a, n, c, rfl, y0, yf, hh, hb⟩
  have HX : Hid _ := And.intro hh hb
  clear hh hb CD c0
  go_wp2_with fail
  exact bodyPost_end (v := .tuple #[]) (by simp [results, Tryz.results194, go_sem]) rfl ⟨rfl, ⟨_, HX.out.1⟩, HX.out.2⟩
set_option maxHeartbeats 4000000 in
theorem takeAll_K (w : World) (lo B g : Nat) (lb : Array Value) (p : Hdl → Bool) (v1 v2 : Value) (l1 l2 : List Hdl) (h : H2 w lo B v1 v2 l1 l2) (hl : l2.length ≤ 1000) (hlo : lo ≤ w.heap.size) (PH : PredH lo w g lb p l2) :
    Calls Tryz.prog 194 #[.pointer (some ⟨B, 1, none⟩), .func (.func g) #[] lb] w fun e w' => e = .returned (.tuple #[]) ∧ (∃ u, H2 w' lo B v1 u l1 (keepH p l2)) ∧ Below lo w w' := by
  have CD : Hid (Calls Tryz.prog 215 #[v2, .func (.func g) #[] lb] w fun e w' => (∃ a n c, e = .returned (.slice a n c) ∧ w'.cell? ⟨B, 1, none⟩ = some v2 ∧ w'.frozen? ⟨B, 1, none⟩ = false ∧ H2 (w'.setCell ⟨B, 1, none⟩ (.slice a n c)) lo B v1 (.slice a n c) l1 (keepH p l2) ∧ Below lo w (w'.setCell ⟨B, 1, none⟩ (.slice a n c)))) := by
    refine (deleteFunc_any w lo lo g lb p v2 l2 h.tp.b hl hlo (Nat.le_refl _) PH).mono ?_
    rintro e w' ⟨⟨v', rfl, ho, hv⟩, hg⟩
    obtain ⟨a, c, rfl, _⟩ := ho.form
    have := h.setK hg ho (.inl hv)
    exact ⟨a, _, c, rfl, this.1, this.2.1, this.2.2.1, this.2.2.2 hlo⟩
  have c1 := h.c1
  obtain ⟨a0, k0, e0, _⟩ := h.tp.b.form
  clear h PH hl hlo
  subst e0
  generalize l2.length = n2 at *
  go_enter Tryz.func194, Tryz.ntmps194
  go_wp2_with fail
  refine CD.out.mono ?_
  rintro e w1 ⟨a, n, c, rfl, y0, yf, hh, hb⟩
  have HX : Hid _ := And.intro hh hb
  clear hh hb CD c1
  go_wp2_with fail
  exact bodyPost_end (v := .tuple #[]) (by simp [results, Tryz.results194, go_sem]) rfl ⟨rfl, ⟨_, HX.out.1⟩, HX.out.2⟩
theorem keepH_x (p : Ent → Bool) (l : List Hdl) : (keepH (fun h => p h.x) l).map Hdl.x = (l.map Hdl.x).filter fun x => !p x := by
  unfold keepH
  rw [List.filter_map]
  rfl
theorem keepH_mem {p : Hdl → Bool} {l : List Hdl} {h : Hdl} (hh : h ∈ keepH p l) : h ∈ l := (List.mem_filter.1 hh).1
/-- What a function value is told of while a store is purged: the entries of a right store. -/
structure StoOk (w : World) (ta ka : Option Addr) (tl kl : List (Ent × EntR)) : Prop where
  t : EntsIn w ta tl
  k : EntsIn w ka kl
  n : tl.length + kl.length ≤ 40
  z : ∀ h ∈ hdl2 ta ka tl kl, entC h.x = 0
  ts : ∀ h ∈ hdl2 ta ka tl kl, ∀ t ∈ h.x.ts, t.size ≤ 1048576
theorem StoOk.keep {w w' : World} {ta ka : Option Addr} {tl kl : List (Ent × EntR)} (h : StoOk w ta ka tl kl) (hb : Below w.heap.size w w') : StoOk w' ta ka tl kl := ⟨h.t.keep hb, h.k.keep hb, h.n, h.z, h.ts⟩
set_option maxRecDepth 100000 in
set_option maxHeartbeats 8000000 in
theorem takenOut_any (w : World) (B0 g : Nat) (lb : Array Value) (p : Ent → Bool) (C : World → Prop) (bu gu : Int) (ta ka : Option Addr) (tc kc : Nat) (tl kl : List (Ent × EntR)) (hS : StoOk w ta ka tl kl) (PF : PredF B0 g lb p C) (hC : C w) (hB0 : B0 ≤ w.heap.size) :
    Calls Tryz.prog 160 #[.agg #[.int .i64 bu, .int .i64 gu, .slice ta tl.length tc, .slice ka kl.length kc], .func (.func g) #[] lb] w fun e w' => (∃ a1 k1 n1 a2 k2 n2 m1 m2, e = .returned (.agg #[.int .i64 bu, .int .i64 gu, .slice a1 n1 k1, .slice a2 n2 k2]) ∧ m1.map Prod.fst = (tl.map Prod.fst).filter (fun x => !p x) ∧ m2.map Prod.fst = (kl.map Prod.fst).filter (fun x => !p x) ∧ StoLV w' w.heap.size (.slice a1 n1 k1) (.slice a2 n2 k2) m1 m2) ∧ Below w.heap.size w w' := by
  have hn := hS.n
  have hzs : ∀ h ∈ hdl2 ta ka tl kl, h.x.ts.length ≤ 1048576 := fun h hh => (entC_sizes (hS.z h hh)).2
  have PH0 := PF.h (l := hdl2 ta ka tl kl) hC hB0 (hdl2_there hS.t hS.k) hzs
  obtain ⟨W, hW⟩ : ∃ W, W = (w.alloc (.cells #[.int .i64 bu, .int .i64 gu, .slice ta tl.length tc, .slice ka kl.length kc] 38)).alloc (.cells #[.int .i64 0, .int .i64 0, .slice none 0 0, .slice none 0 0] 38) := ⟨_, rfl⟩
  have HW : Hid (W = (w.alloc (.cells #[.int .i64 bu, .int .i64 gu, .slice ta tl.length tc, .slice ka kl.length kc] 38)).alloc (.cells #[.int .i64 0, .int .i64 0, .slice none 0 0, .slice none 0 0] 38)) := hW
  have K0 : Hid (Below w.heap.size w W ∧ S4 W w.heap.size (.int .i64 bu) (.int .i64 gu) (.slice ta tl.length tc) (.slice ka kl.length kc) ∧ S4 W (w.heap.size + 1) (.int .i64 0) (.int .i64 0) (.slice none 0 0) (.slice none 0 0) ∧ W.heap.size = w.heap.size + 2) := by
    rw [hW]
    refine ⟨((Below.refl _ _).alloc (Nat.le_refl _) _).alloc (by simp) _, (S4.new w _ _ _ _ _).keep ((Below.refl _ _).alloc (Nat.le_refl _) _), ?_, by simp⟩
    have := S4.new (w.alloc (.cells #[.int .i64 bu, .int .i64 gu, .slice ta tl.length tc, .slice ka kl.length kc] 38)) (.int .i64 0) (.int .i64 0) (.slice none 0 0) (.slice none 0 0) 38
    simpa using this
  have CS : Hid (Calls Tryz.prog 72 #[.agg #[.int .i64 bu, .int .i64 gu, .slice ta tl.length tc, .slice ka kl.length kc]] W fun e w' => (∃ a1 c1 d1 a2 c2 d2, e = .returned (.agg #[.slice a1 c1 d1, .slice a2 c2 d2]) ∧ TwoP w' W.heap.size (.slice a1 c1 d1) (.slice a2 c2 d2) (hdlsA ta tl) (hdlsA ka kl)) ∧ Below W.heap.size W w') := by
    refine (shelvesOf_any W bu gu ta ka tc kc tl kl (by omega) (by omega) (hS.t.keep K0.out.1) (hS.k.keep K0.out.1)).mono ?_
    rintro e w' ⟨⟨v1, v2, rfl, h2⟩, hb'⟩
    obtain ⟨a1, d1, rfl, _⟩ := h2.a.form
    obtain ⟨a2, d2, rfl, _⟩ := h2.b.form
    exact ⟨⟨a1, _, d1, a2, _, d2, rfl, h2⟩, hb'⟩
  have HT : Hid (∀ X B v1 v2, Below w.heap.size w X → H2 X W.heap.size B v1 v2 (hdlsA ta tl) (hdlsA ka kl) → W.heap.size ≤ X.heap.size → Calls Tryz.prog 194 #[.pointer (some ⟨B, 0, none⟩), .func (.func g) #[] lb] X fun e w' => e = .returned (.tuple #[]) ∧ (∃ u, H2 w' W.heap.size B u v2 (keepH (fun h => p h.x) (hdlsA ta tl)) (hdlsA ka kl)) ∧ Below W.heap.size X w') := fun X B v1 v2 hX h hl => takeAll_T X W.heap.size B g lb _ v1 v2 _ _ h (by rw [hdlsA_len]; omega) hl ((PH0.sub (m := hdlsA ta tl) (fun x hx => List.mem_append_left _ hx)).up (by have := K0.out.2.2.2; omega) hX)
  have HK : Hid (∀ X B v1 v2 m, Below w.heap.size w X → H2 X W.heap.size B v1 v2 m (hdlsA ka kl) → W.heap.size ≤ X.heap.size → Calls Tryz.prog 194 #[.pointer (some ⟨B, 1, none⟩), .func (.func g) #[] lb] X fun e w' => e = .returned (.tuple #[]) ∧ (∃ u, H2 w' W.heap.size B v1 u m (keepH (fun h => p h.x) (hdlsA ka kl))) ∧ Below W.heap.size X w') := fun X B v1 v2 m hX h hl => takeAll_K X W.heap.size B g lb _ v1 v2 _ _ h (by rw [hdlsA_len]; omega) hl ((PH0.sub (m := hdlsA ka kl) (fun x hx => List.mem_append_right _ hx)).up (by have := K0.out.2.2.2; omega) hX)
  have HSL : Hid (∀ X v1 v2 base, Below w.heap.size w X → TwoP X base v1 v2 (keepH (fun h => p h.x) (hdlsA ta tl)) (keepH (fun h => p h.x) (hdlsA ka kl)) → Calls Tryz.prog 82 #[.agg #[v1, v2], .agg #[.int .i64 bu, .int .i64 gu, .slice ta tl.length tc, .slice ka kl.length kc]] X fun e w' => (∃ a1 k1 n1 a2 k2 n2 m1 m2, e = .returned (.agg #[.int .i64 bu, .int .i64 gu, .slice a1 n1 k1, .slice a2 n2 k2]) ∧ m1.map Prod.fst = (tl.map Prod.fst).filter (fun x => !p x) ∧ m2.map Prod.fst = (kl.map Prod.fst).filter (fun x => !p x) ∧ StoLV w' X.heap.size (.slice a1 n1 k1) (.slice a2 n2 k2) m1 m2) ∧ Below X.heap.size X w') := fun X v1 v2 base hb h => by
    have hm : ∀ h ∈ keepH (fun h => p h.x) (hdlsA ta tl) ++ keepH (fun h => p h.x) (hdlsA ka kl), h ∈ hdl2 ta ka tl kl := fun h hh => by
      rcases List.mem_append.1 hh with hh | hh
      · exact List.mem_append_left _ (keepH_mem hh)
      · exact List.mem_append_right _ (keepH_mem hh)
    have q1 := keepH_len (fun h => p h.x) (hdlsA ta tl)
    have q2 := keepH_len (fun h => p h.x) (hdlsA ka kl)
    rw [hdlsA_len] at q1 q2
    refine (storeLike_any X v1 v2 base _ _ bu gu ta ka tc kc tl.length kl.length h (by omega) (fun x hx => (hdl2_there hS.t hS.k x (hm x hx)).keep hb) (fun x hx => hS.z x (hm x hx)) (fun x hx => hS.ts x (hm x hx))).mono ?_
    rintro e w' ⟨⟨a1, k1, n1, a2, k2, n2, m1, m2, rfl, q1, q2, o⟩, hb'⟩
    exact ⟨⟨a1, k1, n1, a2, k2, n2, m1, m2, rfl, by rw [q1, keepH_x, hdlsA_x], by rw [q2, keepH_x, hdlsA_x], o.lv⟩, hb'⟩
  have e0 := K0.out.2.1.c0
  have e1 := K0.out.2.1.c1
  have e2 := K0.out.2.1.c2
  have e3 := K0.out.2.1.c3
  rw [HW.out] at e0 e1 e2 e3
  clear hW hS PF hC hB0 hn hzs PH0
  generalize tl.length = tn at *
  generalize kl.length = kn at *
  go_enter Tryz.func160, Tryz.ntmps160
  go_wp2_with fail
  rw [← HW.out]
  refine CS.out.mono ?_
  rintro r0 w2 ⟨⟨a1, c1, d1, a2, c2, d2, rfl, tp⟩, hb2⟩
  obtain ⟨V2, hV2⟩ : ∃ V, V = w2.alloc (.cells #[.slice a1 c1 d1, .slice a2 c2 d2] 106) := ⟨_, rfl⟩
  have HV2 : Hid (V2 = w2.alloc (.cells #[.slice a1 c1 d1, .slice a2 c2 d2] 106)) := hV2
  have aV : Below w2.heap.size w2 V2 := by rw [hV2]; exact (Below.refl _ _).alloc (Nat.le_refl _) _
  have bV : Below W.heap.size W V2 := hb2.trans (aV.mono hb2.size)
  have hh2 : H2 V2 W.heap.size w2.heap.size (.slice a1 c1 d1) (.slice a2 c2 d2) (hdlsA ta tl) (hdlsA ka kl) := by rw [hV2]; exact H2.new tp hb2.size _
  have K2 : Hid (Below W.heap.size W V2) := bV
  have bw : Below w.heap.size w V2 := K0.out.1.trans (bV.mono K0.out.1.size)
  have C1 := HT.out V2 w2.heap.size _ _ bw hh2 bV.size
  have HKW : Hid (∀ X, Below W.heap.size W X → Below w.heap.size w X ∧ S4 X w.heap.size (.int .i64 bu) (.int .i64 gu) (.slice ta tn tc) (.slice ka kn kc) ∧ S4 X (w.heap.size + 1) (.int .i64 0) (.int .i64 0) (.slice none 0 0) (.slice none 0 0) ∧ w.heap.size + 2 ≤ W.heap.size) := fun X hX => ⟨K0.out.1.trans (hX.mono K0.out.1.size), K0.out.2.1.keep hX, K0.out.2.2.1.keep hX, by have := K0.out.2.2.2; omega⟩
  clear hV2 aV bV hh2 bw hb2 tp CS K0 e0 e1 e2 e3 HW HT
  go_wp2_with fail
  rw [← HV2.out]
  refine C1.mono ?_
  rintro r0 w3 ⟨rfl, ⟨u1, hh3⟩, hb3⟩
  have b3 : Below W.heap.size W w3 := K2.out.trans hb3
  have C2 := HK.out w3 w2.heap.size _ _ _ (HKW.out _ b3).1 hh3 b3.size
  have K3 : Hid (Below W.heap.size W w3) := b3
  clear C1 HK hh3 hb3 b3 K2 HV2
  go_wp2_with fail
  refine C2.mono ?_
  rintro r0 w4 ⟨rfl, ⟨u2, hh4⟩, hb4⟩
  have b4 : Below W.heap.size W w4 := K3.out.trans hb4
  obtain ⟨f1, g1, rfl, _⟩ := hh4.tp.a.form
  obtain ⟨f2, g2, rfl, _⟩ := hh4.tp.b.form
  have C3 := HSL.out w4 _ _ _ (HKW.out _ b4).1 hh4.tp
  have y0 := hh4.c0
  have y1 := hh4.c1
  have sS := (HKW.out _ b4).2.1
  have e0 := sS.c0
  have e1 := sS.c1
  have e2 := sS.c2
  have e3 := sS.c3
  have K4 : Hid (Below W.heap.size W w4) := b4
  generalize (keepH (fun h => p h.x) (hdlsA ta tl)).length = q1 at *
  generalize (keepH (fun h => p h.x) (hdlsA ka kl)).length = q2 at *
  clear C2 HSL hh4 hb4 b4 K3 sS
  go_wp2_with fail
  refine C3.mono ?_
  rintro r0 w5 ⟨⟨b1, k1, n1, b2, k2, n2, m1, m2, rfl, x1, x2, o⟩, hb5⟩
  have b5 : Below W.heap.size W w5 := K4.out.trans (hb5.mono K4.out.size)
  obtain ⟨bw, _, s4, hsz⟩ := HKW.out _ b5
  have HO : Hid (StoLV w5 w4.heap.size (.slice b1 n1 k1) (.slice b2 n2 k2) m1 m2 ∧ m1.map Prod.fst = (tl.map Prod.fst).filter (fun x => !p x) ∧ m2.map Prod.fst = (kl.map Prod.fst).filter (fun x => !p x) ∧ w.heap.size + 1 < w4.heap.size ∧ Below w.heap.size w w5) := ⟨o, x1, x2, by have := K4.out.size; omega, bw⟩
  have z0 := s4.c0
  have z1 := s4.c1
  have z2 := s4.c2
  have z3 := s4.c3
  have zf0 := s4.fr 0
  have zf1 := s4.fr 1
  have zf2 := s4.fr 2
  have zf3 := s4.fr 3
  clear s4 o x1 x2 hb5 b5 K4 C3 y0 y1 e0 e1 e2 e3 HKW bw hsz
  go_wp2_with fail
  refine bodyPost_ret (v := .agg #[.int .i64 bu, .int .i64 gu, .slice b1 n1 k1, .slice b2 n2 k2]) (by simp [results, Tryz.results160, go_sem, z0, z1, z2, z3]) rfl ?_
  obtain ⟨o, x1, x2, hlt, hB⟩ := HO.out
  exact ⟨⟨b1, k1, n1, b2, k2, n2, m1, m2, rfl, x1, x2, ((((o.off1 _ hlt).off1 _ hlt).off1 _ hlt).off1 _ hlt).lower (by omega)⟩, (((hB.setCell (by simp) _).setCell (by simp) _).setCell (by simp) _).setCell (by simp) _⟩
end Go.Proofs.YtmidfgjnaebfiaaGreatDoor
/-
  The last one that fits is taken out of a shelf.
-/
namespace Go.Proofs.YtmidfgjnaebfiaaGreatDoor
open Go.ChangeShapes Go.WideShapes Go.ChangeAt Go.RowKit Go.Sort Go.Shelf
attribute [local go_sem] Oper.semAt_some
/-- One cell of block B is another one, and what the row 'own' holds; below the call's own blocks nothing else has turned. -/
structure Took (w w' : World) (B o : Nat) (own : Option Nat) (u : Value) : Prop where
  os : w'.os = w.os
  tape : w'.tape = w.tape
  output : w'.output = w.output
  size : w.heap.size ≤ w'.heap.size
  block : ∀ k, k < w.heap.size → k ≠ B → some k ≠ own → w'.heap[k]? = w.heap[k]?
  cB : w'.cell? ⟨B, o, none⟩ = some u
  cO : ∀ i, i ≠ o → w'.cell? ⟨B, i, none⟩ = w.cell? ⟨B, i, none⟩
  fr : ∀ i, w'.frozen? ⟨B, i, none⟩ = w.frozen? ⟨B, i, none⟩
theorem Took.grown {w W W' : World} {B o : Nat} {own row : Option Nat} {u : Value} (h : Took w W B o own u) (hB : B < w.heap.size) (hg : W.grownBy W' row) (hr : ∀ r, row = some r → w.heap.size ≤ r) : Took w W' B o own u := by
  have nB : some B ≠ row := fun e => by have := hr B e.symm; omega
  have eB := hg.block B (Nat.lt_of_lt_of_le hB h.size) nB
  have ec : ∀ i, W'.cell? ⟨B, i, none⟩ = W.cell? ⟨B, i, none⟩ := fun i => by simp only [World.cell?, eB]
  have ef : ∀ i, W'.frozen? ⟨B, i, none⟩ = W.frozen? ⟨B, i, none⟩ := fun i => by simp only [World.frozen?, eB]
  exact ⟨hg.os.trans h.os, hg.tape.trans h.tape, hg.output.trans h.output, Nat.le_trans h.size hg.size, fun k hk hn ho => (hg.block k (Nat.lt_of_lt_of_le hk h.size) (fun e => by have := hr k e.symm; omega)).trans (h.block k hk hn ho), (ec o).trans h.cB, fun i hi => (ec i).trans (h.cO i hi), fun i => (ef i).trans (h.fr i)⟩
theorem Took.of {w W W' : World} {B o : Nat} {own : Option Nat} {v u : Value} (hb : Below w.heap.size w W) (hg : W.grownBy W' own) (hB : B < w.heap.size) (hn : own ≠ some B) (hc : w.cell? ⟨B, o, none⟩ = some v) : Took w (W'.setCell ⟨B, o, none⟩ u) B o own u := by
  have e1 := hg.block B (Nat.lt_of_lt_of_le hB hb.size) (fun e => hn e.symm)
  have e2 := hb.block B hB
  have ec : ∀ i, W'.cell? ⟨B, i, none⟩ = w.cell? ⟨B, i, none⟩ := fun i => by simp only [World.cell?, e1, e2]
  have ef : ∀ i, W'.frozen? ⟨B, i, none⟩ = w.frozen? ⟨B, i, none⟩ := fun i => by simp only [World.frozen?, e1, e2]
  refine ⟨by rw [setCell_eq]; exact hg.os.trans hb.os, by rw [setCell_eq]; exact hg.tape.trans hb.tape, by rw [setCell_eq]; exact hg.output.trans hb.output, by simpa using Nat.le_trans hb.size hg.size, fun k hk hk2 ho => ?_, World.cell?_setCell_same _ _ _ ((ec o).trans hc), fun i hi => ?_, fun i => ?_⟩
  · have : (W'.setCell ⟨B, o, none⟩ u).heap[k]? = W'.heap[k]? := by
      rw [setCell_eq]
      have : B ≠ k := fun e => hk2 e.symm
      simp [mapBlock, Array.getElem?_modify, this]
    rw [this, hg.block k (Nat.lt_of_lt_of_le hk hb.size) ho]
    exact hb.block k hk
  · rw [World.cell?_setCell_other _ _ _ _ (by intro e; have := congrArg Addr.off e; simp at this; exact hi this.symm)]
    exact ec i
  · rw [World.frozen?_setCell]; exact ef i
/-- What takeLast tells. -/
def LastR (w : World) (B o base : Nat) (p : Hdl → Bool) (v : Value) (l : List Hdl) (e : Ending) (w' : World) : Prop :=
  ((∀ h ∈ l, p h = false) ∧ e = .returned (.pointer none) ∧ Below w.heap.size w w') ∨
  (∃ A h R u, l = A ++ h :: R ∧ p h = true ∧ (∀ x ∈ R, p x = false) ∧ e = .returned (.pointer (some ⟨h.b, h.o, none⟩)) ∧ Took w w' B o v.ownBlock u ∧ OwnP w' base u (A ++ R) ∧ u.ownBlock = v.ownBlock)
def PBI {l : List Hdl} (p : Hdl → Bool) (W0 : World) (pre : List (AtH l)) (W : World) : Prop := (∀ x ∈ pre, p x.1.2 = false) ∧ Below W0.heap.size W0 W
def PBX {l : List Hdl} (p : Hdl → Bool) (w : World) (B o base rc : Nat) (v : Value) (c : Code) (pre : List (AtH l)) (W : World) : Prop :=
  c = .ret ∧ ∃ pr x, pre = pr ++ [x] ∧ (∀ y ∈ pr, p y.1.2 = false) ∧ p x.1.2 = true ∧ W.cell? ⟨rc, 0, none⟩ = some (.pointer (some ⟨x.1.2.b, x.1.2.o, none⟩)) ∧ ∃ u, Took w W B o v.ownBlock u ∧ OwnP W base u (l.eraseIdx x.1.1) ∧ u.ownBlock = v.ownBlock
def actB {l : List Hdl} (w : World) (B o g : Nat) (lb : Array Value) (va : Option Addr) (n vc : Nat) (x : AtH l) : Act := { tmps := #[.pointer (some ⟨B, o, none⟩), .func (.func g) #[] lb, .pointer (some ⟨w.heap.size, 0, none⟩), .pointer (some ⟨w.heap.size + 1, 0, none⟩), .pointer (some ⟨w.heap.size + 2, 0, none⟩), .int .i64 (x.1.1 : Int), .pointer (some ⟨x.1.2.b, x.1.2.o, none⟩), .pointer (some ⟨B, o, none⟩), .pointer (some ⟨B, o, none⟩), .pointer (some ⟨B, o, none⟩), .slice va n vc, .func (.func 214) #[] #[.pointer (some ⟨w.heap.size + 3, 0, none⟩)], .int .i64 (x.1.1 : Int), .pointer (some ⟨x.1.2.b, x.1.2.o, none⟩), undef, undef, undef, undef, undef, undef, undef, undef, undef, undef, undef, undef, undef, undef, undef], defers := [] }
theorem own_kept {w W W' : World} {base : Nat} {v u : Value} {m : List Hdl} {row : Option Nat} (h : OwnP W base u m) (hu : u.ownBlock = v.ownBlock) (hv : ∀ q, v.ownBlock = some q → q < w.heap.size) (hg : W.grownBy W' row) (hr : ∀ r, row = some r → w.heap.size ≤ r) : OwnP W' base u m :=
  World.ownsRow.kept h hg (by
    cases e : u.ownBlock with
    | none => exact .inl rfl
    | some q => exact .inr fun e2 => by have := hr q e2.symm; have := hv q (by rw [← hu, e]); omega)
theorem pbx_grown {l : List Hdl} {p : Hdl → Bool} {w W W' : World} {B o base rc : Nat} {v : Value} {c : Code} {pre : List (AtH l)} {row : Option Nat} (h : PBX p w B o base rc v c pre W) (hB : B < w.heap.size) (hv : ∀ q, v.ownBlock = some q → q < w.heap.size) (hg : W.grownBy W' row) (hr : ∀ r, row = some r → w.heap.size ≤ r ∧ ∃ o : Obj, W.heap[r]? = some o ∧ o.isCells = false) : PBX p w B o base rc v c pre W' := by
  obtain ⟨h1, pr, x, h2, h3, h4, h5, u, h6, h7, h8⟩ := h
  exact ⟨h1, pr, x, h2, h3, h4, cell_kept h5 hg (fun r e => (hr r e).2), u, h6.grown hB hg (fun r e => (hr r e).1), own_kept h7 h8 hv hg (fun r e => (hr r e).1), h8⟩
theorem cell_oneB (X : World) (v : Value) (t : TypeId) : (X.alloc (.cells #[v] t)).cell? ⟨X.heap.size, 0, none⟩ = some v := by simp
theorem four_boxes (w : World) (a b c d : Value) (t1 t2 t3 t4 : TypeId) (W : World) (hW : W = (((w.alloc (.cells #[a] t1)).alloc (.cells #[b] t2)).alloc (.cells #[c] t3)).alloc (.cells #[d] t4)) :
    Below w.heap.size w W ∧ W.heap.size = w.heap.size + 4 ∧ W.cell? ⟨w.heap.size, 0, none⟩ = some a ∧ W.cell? ⟨w.heap.size + 1, 0, none⟩ = some b ∧ W.cell? ⟨w.heap.size + 2, 0, none⟩ = some c ∧ W.cell? ⟨w.heap.size + 3, 0, none⟩ = some d ∧ W.frozen? ⟨w.heap.size + 2, 0, none⟩ = false := by
  subst hW
  have a1 : Below w.heap.size w (w.alloc (.cells #[a] t1)) := (Below.refl _ _).alloc (Nat.le_refl _) _
  have s1 := World.size_alloc w (.cells #[a] t1)
  have n1 := cell_oneB w a t1
  generalize w.alloc (.cells #[a] t1) = w1 at *
  have a2 : Below w1.heap.size w1 (w1.alloc (.cells #[b] t2)) := (Below.refl _ _).alloc (Nat.le_refl _) _
  have s2 := World.size_alloc w1 (.cells #[b] t2)
  have n2 := cell_oneB w1 b t2
  generalize w1.alloc (.cells #[b] t2) = w2 at *
  have a3 : Below w2.heap.size w2 (w2.alloc (.cells #[c] t3)) := (Below.refl _ _).alloc (Nat.le_refl _) _
  have s3 := World.size_alloc w2 (.cells #[c] t3)
  have n3 := cell_oneB w2 c t3
  have f3 : (w2.alloc (.cells #[c] t3)).frozen? ⟨w2.heap.size, 0, none⟩ = false := by simp
  generalize w2.alloc (.cells #[c] t3) = w3 at *
  have a4 : Below w3.heap.size w3 (w3.alloc (.cells #[d] t4)) := (Below.refl _ _).alloc (Nat.le_refl _) _
  have s4 := World.size_alloc w3 (.cells #[d] t4)
  have n4 := cell_oneB w3 d t4
  generalize w3.alloc (.cells #[d] t4) = w4 at *
  rw [s1] at n2 s2 a2
  rw [s2] at n3 s3 a3 f3
  rw [s3] at n4 s4 a4
  have b4 : Below (w.heap.size + 1 + 1) w3 w4 := a4.mono (by omega)
  have b3 : Below (w.heap.size + 1 + 1) w2 w4 := a3.trans b4
  have b2 : Below (w.heap.size + 1) w1 w4 := a2.trans (b3.mono (by omega))
  have b1 : Below w.heap.size w w4 := a1.trans (b2.mono (by omega))
  exact ⟨b1, by omega, by rw [b2.cell (p := ⟨w.heap.size, 0, none⟩) (by simp)]; exact n1, by rw [b3.cell (p := ⟨w.heap.size + 1, 0, none⟩) (by simp)]; exact n2, by rw [a4.cell (p := ⟨w.heap.size + 2, 0, none⟩) (by simp)]; exact n3, n4, by rw [a4.frozen (p := ⟨w.heap.size + 2, 0, none⟩) (by simp)]; exact f3⟩
theorem split_at {l : List Hdl} {i : Nat} {h : Hdl} (e : l[i]? = some h) : ∃ A R, l = A ++ h :: R ∧ A.length = i ∧ l.eraseIdx i = A ++ R := by
  obtain ⟨hi, rfl⟩ := List.getElem?_eq_some_iff.1 e
  refine ⟨l.take i, l.drop (i + 1), ?_, by simp; omega, by rw [List.eraseIdx_eq_take_drop_succ]⟩
  rw [List.getElem_cons_drop, List.take_append_drop]
end Go.Proofs.YtmidfgjnaebfiaaGreatDoor
/-
  takeLast of one shelf.
-/
namespace Go.Proofs.YtmidfgjnaebfiaaGreatDoor
open Go.ChangeShapes Go.WideShapes Go.ChangeAt Go.RowKit Go.Sort Go.Shelf
attribute [local go_sem] Oper.semAt_some
def noDefer (ops : Array Oper) : Bool := ops.all fun o => match o.op with | .defer _ => false | _ => true
theorem noDefer_of {ops : Array Oper} (h : noDefer ops = true) : ∀ (i : Nat) (o : Oper), ops[i]? = some o → ∀ c, o.op ≠ .defer c := by
  intro i o ho c hc
  unfold noDefer at h
  rw [Array.all_eq_true] at h
  obtain ⟨hi, he⟩ := Array.getElem?_eq_some_iff.1 ho
  have := h i hi
  rw [he, hc] at this
  simp at this
theorem wpOpIn_out {F : Fence} {n : Nat} {P : Program} {ops : Array Oper} {Q : Exit → Act → World → Prop} (l : Nat) (hro : F.round = none) (hnd : ∀ (i : Nat) (o : Oper), ops[i]? = some o → ∀ c, o.op ≠ .defer c) {i : Nat} {K : Act → World → Prop} {a : Act} {w : World} (h : wpOpIn F n P ops Q i K a w) : wpOpIn (F.inRound l) n P ops Q i K a w := by
  unfold wpOpIn at *
  cases ho : ops[i]? with
  | none => simp only [ho] at h ⊢; exact h
  | some o =>
    simp only [ho] at h ⊢
    split
    · rename_i hw
      rw [if_pos hw] at h
      unfold Oper.wpIn at *
      refine ⟨h.1, ?_⟩
      have h2 := h.2
      rw [hro, Oper.semAt_none] at h2
      rw [Fence.inRound_round, Oper.semAt_some l _ _ (hnd i o ho)]
      generalize (execOp a.eval o).run P w = r at *
      cases r with
      | ok x w' => cases x <;> exact h2
      | halt x w' => cases x <;> exact h2
    · rename_i hw
      rw [if_neg hw] at h
      exact h
theorem wpAnyIn_out {F : Fence} {n : Nat} {P : Program} {md : Region.Mode} {ops : Array Oper} {Q : Exit → Act → World → Prop} (l : Nat) (hro : F.round = none) (hnd : ∀ (i : Nat) (o : Oper), ops[i]? = some o → ∀ c, o.op ≠ .defer c) : ∀ (fuel : Nat) (listed : Array Bool) (a : Act) (w : World), wpAnyIn F n P md ops Q fuel listed a w → wpAnyIn (F.inRound l) n P md ops Q fuel listed a w
  | 0, _, _, _, h => h
  | fuel + 1, _, _, _, h => ⟨h.1, fun i hi => wpOpIn_out l hro hnd (wpOpIn_mono (fun a w => wpAnyIn_out l hro hnd fuel _ a w) (h.2 i hi))⟩
theorem keepA3 {w : World} {q : Addr} {v : Value} (o1 o2 o3 : Obj) (h : w.cell? q = some v) : (((w.alloc o1).alloc o2).alloc o3).cell? q = some v := by
  have k : ∀ (X : World) (o : Obj), X.cell? q = some v → (X.alloc o).cell? q = some v := fun X o hX => by
    rw [((Below.refl _ X).alloc (Nat.le_refl _) o).cell (block_lt_of_cell hX)]; exact hX
  exact k _ _ (k _ _ (k _ _ h))
set_option maxRecDepth 100000 in
set_option maxHeartbeats 8000000 in
theorem takeLast_any (w : World) (B o base g : Nat) (lb : Array Value) (p : Hdl → Bool) (v : Value) (l : List Hdl) (hc : w.cell? ⟨B, o, none⟩ = some v) (hfz : w.frozen? ⟨B, o, none⟩ = false) (ho : OwnP w base v l) (hl : l.length ≤ 1000) (hn : v.ownBlock ≠ some B) (PH : PredH w.heap.size w g lb p l) :
    Calls Tryz.prog 149 #[.pointer (some ⟨B, o, none⟩), .func (.func g) #[] lb] w fun e w' => LastR w B o base p v l e w' := by
  obtain ⟨va, vc, rfl, hvc, hf⟩ := ho.form
  have hB : B < w.heap.size := block_lt_of_cell hc
  have hv : ∀ q, (Value.slice va l.length vc).ownBlock = some q → q < w.heap.size := fun q hq => ho.lt q hq
  have eg := PH.eg
  have HO : Hid (OwnP w base (.slice va l.length vc) l) := ho
  have HP : Hid (PredH w.heap.size w g lb p l) := PH
  clear ho PH
  obtain ⟨n, hnl⟩ : ∃ n, l.length = n := ⟨_, rfl⟩
  rw [hnl] at hc hl hn hvc hv HO ⊢
  have HN : Hid (l.length = n) := hnl
  clear hnl
  have hc3 : (((w.alloc (.cells #[.pointer (some ⟨B, o, none⟩)] 164)).alloc (.cells #[.func (.func g) #[] lb] 136)).alloc (.cells #[.pointer none] 101)).cell? ⟨B, o, none⟩ = some (.slice va n vc) := keepA3 _ _ _ hc
  refine (callsIn_wide (n := 3)).1 ?_
  refine callsIn_of_wp_marks Tryz.func149 rfl trivial ?_ rfl
  simp only [Tryz.ntmps149, List.size_toArray, List.length_cons, List.length_nil, Nat.reduceAdd, Nat.reduceSub, Array.replicate_succ, Array.replicate_zero, List.push_toArray, List.append_toArray, List.nil_append, List.cons_append]
  gi_wp2_with (refine ⟨trivial, ?_⟩; gi_at_call 191; refine (callsIn_wide.2 (back_any _ _ _ _)).mono ?_; rintro e w' ⟨rfl, rfl⟩)
  obtain ⟨W0, hW0⟩ : ∃ W0, W0 = (((w.alloc (.cells #[.pointer (some ⟨B, o, none⟩)] 164)).alloc (.cells #[.func (.func g) #[] lb] 136)).alloc (.cells #[.pointer none] 101)).alloc (.cells #[.slice va n vc] 102) := ⟨_, rfl⟩
  have F4 := four_boxes w _ _ _ _ _ _ _ _ W0 hW0
  rw [← hW0]
  clear hW0 hc3
  obtain ⟨hb0, hsz, k0, k1, k2, k3, f2⟩ := F4
  have hfl : l = [] ∨ ∃ g, va = some ⟨g, 0, none⟩ ∧ g < W0.heap.size ∧ ∀ (i : Nat) k, l[i]? = some k → W0.cell? ⟨g, i, none⟩ = some (hP k) := by
    rcases hf with e | ⟨g, e, _, hg, h1⟩
    · exact .inl e
    · exact .inr ⟨g, e, Nat.lt_of_lt_of_le hg hb0.size, fun i k hk => by rw [hb0.cell (p := ⟨g, i, none⟩) hg]; exact h1 i k hk⟩
  have SQ := backTell 2 (by omega) (w.heap.size + 3) W0.heap.size va vc l (by rw [HN.out]; exact hl) W0 (Nat.le_refl _) (by omega) hfl (by rw [HN.out]; exact k3)
  clear hf hfl
  refine wpIn_rangeFunc_ownH rfl (by omega) (gf := 214) (lb := #[.pointer (some ⟨w.heap.size + 3, 0, none⟩)]) rfl trivial (enters_of Tryz.func214 (by kernel_rfl) rfl)
    SQ belowK_t (belowK_b (Nat.le_refl _)) (Below.refl _ _) (fun _ => rfl)
    (fun pre W => PBI p W0 pre W) (fun c pre W => PBX p w B o base (w.heap.size + 2) (.slice va n vc) c pre W)
    (fun pre W W' row h hg hr => ⟨h.1, h.2.grown hg h.2.size (fun k e => (hr k e).1)⟩)
    (fun c pre W W' row h hg hr => pbx_grown h hB hv hg (fun r e => by have := hr r e; exact ⟨by omega, this.2⟩))
    ⟨fun x hx => by simp at hx, Below.refl _ _⟩
    (fun x a' W => a' = actB w B o g lb va n vc x)
    (fun x a' _ W W' row h hg hr => h)
    ?assign ?body ?done ?stop
  case assign =>
    rintro lp pre x W K hI hK
    have HK := hK (actB w B o g lb va n vc x) W (KeepsFrom.refl _ _) (Below.refl _ _) hI rfl
    clear hK SQ
    unfold actB at HK
    simp only [encB]
    gi_wp2
    exact HK
  case body =>
    rintro lp pre x a' W hlp hrec hI rfl hlt
    unfold actB
    obtain ⟨⟨i, h⟩, hx⟩ := x
    obtain ⟨A, R, hAR, hA, her⟩ := split_at hx
    have HI : Hid (PBI p W0 pre W) := hI
    have hbW : Below w.heap.size w W := hb0.trans (hI.2.mono (by omega))
    have cW : ∀ X, Below W.heap.size W X → X.cell? ⟨w.heap.size, 0, none⟩ = some (.pointer (some ⟨B, o, none⟩)) ∧ X.cell? ⟨w.heap.size + 1, 0, none⟩ = some (.func (.func g) #[] lb) ∧ X.cell? ⟨w.heap.size + 2, 0, none⟩ = some (.pointer none) ∧ X.frozen? ⟨w.heap.size + 2, 0, none⟩ = false ∧ X.cell? ⟨B, o, none⟩ = some (.slice va n vc) ∧ X.frozen? ⟨B, o, none⟩ = false := fun X hX => by
      have b0 := hI.2.trans (hX.mono hI.2.size)
      have b1 := hbW.trans (hX.mono hbW.size)
      refine ⟨?_, ?_, ?_, ?_, ?_, ?_⟩
      · rw [b0.cell (p := ⟨w.heap.size, 0, none⟩) (by simp only; omega)]; exact k0
      · rw [b0.cell (p := ⟨w.heap.size + 1, 0, none⟩) (by simp only; omega)]; exact k1
      · rw [b0.cell (p := ⟨w.heap.size + 2, 0, none⟩) (by simp only; omega)]; exact k2
      · rw [b0.frozen (p := ⟨w.heap.size + 2, 0, none⟩) (by simp only; omega)]; exact f2
      · rw [b1.cell (p := ⟨B, o, none⟩) hB]; exact hc
      · rw [b1.frozen (p := ⟨B, o, none⟩) hB]; exact hfz
    have CP := HP.out.call W hbW h (by rw [hAR]; simp)
    obtain ⟨d0, d1, _, _, _, _⟩ := cW W (Below.refl _ _)
    have HC : Hid (∀ X, Below W.heap.size W X → X.cell? ⟨w.heap.size, 0, none⟩ = some (.pointer (some ⟨B, o, none⟩)) ∧ X.cell? ⟨w.heap.size + 1, 0, none⟩ = some (.func (.func g) #[] lb) ∧ X.cell? ⟨w.heap.size + 2, 0, none⟩ = some (.pointer none) ∧ X.frozen? ⟨w.heap.size + 2, 0, none⟩ = false ∧ X.cell? ⟨B, o, none⟩ = some (.slice va n vc) ∧ X.frozen? ⟨B, o, none⟩ = false) := cW
    have hin : i < n := by rw [← HN.out]; exact (List.getElem?_eq_some_iff.1 hx).1
    have gi1 : IntKind.i64.wrap ((i : Int) + 1) = (i : Int) + 1 := by unfold IntKind.wrap; simp [IntKind.signed, IntKind.bits]; omega
    have HD : Hid (∀ X, Below W.heap.size W X → Calls Tryz.prog 192 #[.slice va n vc, .int .i64 (i : Int), .int .i64 ((i : Int) + 1)] X fun e X' => ∃ a m c, e = .returned (.slice a m c) ∧ X'.cell? ⟨w.heap.size, 0, none⟩ = some (.pointer (some ⟨B, o, none⟩)) ∧ X'.cell? ⟨B, o, none⟩ = some (.slice va n vc) ∧ X'.frozen? ⟨B, o, none⟩ = false ∧ (X'.setCell ⟨B, o, none⟩ (.slice a m c)).cell? ⟨w.heap.size + 2, 0, none⟩ = some (.pointer none) ∧ (X'.setCell ⟨B, o, none⟩ (.slice a m c)).frozen? ⟨w.heap.size + 2, 0, none⟩ = false ∧ KeepsFrom W0.heap.size W ((X'.setCell ⟨B, o, none⟩ (.slice a m c)).setCell ⟨w.heap.size + 2, 0, none⟩ (.pointer (some ⟨h.b, h.o, none⟩))) ∧ (p h = true → PBX p w B o base (w.heap.size + 2) (.slice va n vc) .ret (pre ++ [(⟨(i, h), hx⟩ : AtH l)]) ((X'.setCell ⟨B, o, none⟩ (.slice a m c)).setCell ⟨w.heap.size + 2, 0, none⟩ (.pointer (some ⟨h.b, h.o, none⟩))))) := fun X hX => by
      have b1 := hbW.trans (hX.mono hbW.size)
      have hoX : OwnP X base (.slice va n vc) (A ++ h :: R) := by rw [← hAR]; exact HO.out.below b1
      have := delOne_any X base _ A h R hoX
      rw [hA] at this
      refine Calls.mono this ?_
      rintro e X' ⟨⟨u, rfl, hu, hub⟩, hg⟩
      obtain ⟨a, c, rfl, _⟩ := hu.form
      have hgn : ∀ q, (Value.slice va n vc).ownBlock = some q → q < w.heap.size := hv
      have nk : ∀ k, w.heap.size ≤ k → some k ≠ (Value.slice va n vc).ownBlock := fun k hk e => by have := hgn k e.symm; omega
      obtain ⟨c0, c1, c2, c3, c4, c5⟩ := HC.out X hX
      have x0 := hg.cell c0 (nk w.heap.size (Nat.le_refl _))
      have x2 := hg.cell c2 (nk (w.heap.size + 2) (by omega))
      have x3 : X'.frozen? ⟨w.heap.size + 2, 0, none⟩ = false := (World.frozen?_of_block (hg.block (w.heap.size + 2) (by have := block_lt_of_cell c2; simpa using this) (nk _ (by omega)))).trans c3
      have x4 := hg.cell c4 (fun e => hn e.symm)
      have x5 : X'.frozen? ⟨B, o, none⟩ = false := (World.frozen?_of_block (hg.block B (Nat.lt_of_lt_of_le hB b1.size) (fun e => hn e.symm))).trans c5
      have nB : (⟨B, o, none⟩ : Addr) ≠ ⟨w.heap.size + 2, 0, none⟩ := fun e => by have := congrArg Addr.block e; simp at this; omega
      have y2 : (X'.setCell ⟨B, o, none⟩ (.slice a (A ++ R).length c)).cell? ⟨w.heap.size + 2, 0, none⟩ = some (.pointer none) := by rw [World.cell?_setCell_other _ _ _ _ nB]; exact x2
      refine ⟨a, _, c, rfl, x0, x4, x5, y2, by rw [World.frozen?_setCell]; exact x3, ?_, fun hp => ⟨rfl, pre, _, rfl, HI.out.1, hp, World.cell?_setCell_same _ _ _ y2, _, ?_, ?_, hub⟩⟩
      · exact (((KeepsFrom.of_grownBy (row := none) (grow_below _ hX) (fun j e => by cases e)).trans (KeepsFrom.of_grownBy hg (fun j e => by have := hgn j e; omega))).trans ((KeepsOthers.setCell _ _ _).from _)).trans ((KeepsOthers.setCell _ _ _).from _)
      · exact (Took.of b1 hg hB hn hc).grown hB (grownBy_setCell' _ _ _) (fun r e => by cases e; omega)
      · rw [her]
        exact own_kept (row_far1 hu _ (by rw [hub]; exact hn)) hub hgn (grownBy_setCell' _ _ _) (fun r e => by cases e; omega)
    clear cW hAR hA her SQ hbW k0 k1 k2 k3 f2 HO HP HN hc hfz
    cases hp : p h
    · rw [hp] at CP
      have HF : Hid (∀ X, Below W.heap.size W X → KeepsFrom W0.heap.size W X ∧ Below W0.heap.size W X) := fun X hX => ⟨KeepsFrom.of_grownBy (row := none) (grow_below _ hX) (fun j e => by cases e), hX.mono HI.out.2.size⟩
      have HF2 : Hid (∀ X, Below W.heap.size W X → ∀ y : AtH l, y.1.2 = h → PBI p W0 (pre ++ [y]) X) := fun X hX y hy => ⟨fun z hz => by
        rcases List.mem_append.1 hz with hz | hz
        · exact HI.out.1 z hz
        · simp at hz; rw [hz, hy]; exact hp, HI.out.2.trans (hX.mono HI.out.2.size)⟩
      clear HD HC hp hI HI
      gi_wp2_with (refine ⟨trivial, ?_⟩; gi_at_fn g; refine (CallsIn.inRound lp (callsIn_wide.2 CP)).mono ?_; rintro e w1 ⟨rfl, hb1⟩)
      exact ⟨(HF.out _ hb1).1, (HF.out _ hb1).2, HF2.out _ hb1 _ rfl⟩
    · rw [hp] at CP
      have HDp : Hid (p h = true) := hp
      clear hp hI
      gi_wp2_with (first
        | (refine ⟨trivial, ?_⟩; gi_at_fn g; refine (CallsIn.inRound lp (callsIn_wide.2 CP)).mono ?_; rintro e w1 ⟨rfl, hb1⟩; obtain ⟨q0, q1, q2, q3, q4, q5⟩ := HC.out _ hb1; have HD1 := HD.out w1.drew hb1.drew; clear CP)
        | (refine ⟨trivial, ?_⟩; gi_at_call 192; refine (CallsIn.inRound lp (callsIn_wide.2 HD1)).mono ?_; rintro e w2 ⟨ra, rm, rc, rfl, s0, s1, s2, s3, s4, s5, s6⟩))
      clear HC HD HI hrec hlt hin hb0 hsz hvc hl hv eg hlp d0 d1 q1 q2 q3 hB hn hb1
      refine wpIn_region_any (by kernel_rfl) ?_
      try (change wpAnyIn _ _ _ _ _ _ _ _ _ (World.drew _))
      refine wpAnyIn_out lp rfl (noDefer_of (by kernel_rfl)) _ _ _ _ ?_
      have r0 : w1.drew.cell? ⟨w.heap.size, 0, none⟩ = some (.pointer (some ⟨B, o, none⟩)) := q0
      have r4 : w1.drew.cell? ⟨B, o, none⟩ = some (.slice va n vc) := q4
      refine wpAnyIn_take (i := 5) (v := ?_) rfl rfl (by kernel_rfl) (by kernel_rfl) (by kernel_rfl) (fun _ _ _ h => h) ⟨Or.inl ⟨by rfl, ?_⟩, fun _ => rfl⟩ ?_
      rotate_left
      · intro w9; go_simp; first | done | (with_reducible rfl)
      refine wpAnyIn_take (i := 6) (v := ?_) rfl rfl (by kernel_rfl) (by kernel_rfl) (by kernel_rfl) (fun _ _ _ h => h) ⟨Or.inl ⟨by rfl, ?_⟩, fun _ => rfl⟩ ?_
      rotate_left
      · intro w9; go_simp; first | done | (with_reducible rfl)
      refine wpAnyIn_take (i := 7) (v := ?_) rfl rfl (by kernel_rfl) (by kernel_rfl) (by kernel_rfl) (fun _ _ _ h => h) ⟨Or.inl ⟨by rfl, ?_⟩, fun _ => rfl⟩ ?_
      rotate_left
      · intro w9; go_simp; first | done | (with_reducible rfl)
      refine wpAnyIn_ready (rs := [0, 1]) (by kernel_rfl) (by simp) ?_
      refine AllReadyIn.cons rfl (fun K hK => ?_) ?_
      · go_simp
        refine hK _ _ ?_
        clear hK K
        refine wpAnyIn_ready (rs := [1]) (by kernel_rfl) (by simp) ?_
        refine AllReadyIn.cons rfl (fun K hK => ?_) ?_
        · go_simp
          refine hK _ _ ?_
          clear hK K
          refine wpAnyIn_take (i := 2) (v := ?_) rfl rfl (by kernel_rfl) (by kernel_rfl) (by kernel_rfl) (fun _ _ _ h => h) ⟨Or.inl ⟨by rfl, ?_⟩, fun _ => rfl⟩ ?_
          rotate_left
          · intro w9; go_simp; first | done | (with_reducible rfl)
          refine wpAnyIn_take (i := 3) (v := ?_) rfl rfl (by kernel_rfl) (by kernel_rfl) (by kernel_rfl) (fun _ _ _ h => h) ⟨Or.inl ⟨by rfl, ?_⟩, fun _ => rfl⟩ ?_
          rotate_left
          · intro w9; go_simp; first | done | (with_reducible rfl)
          refine wpAnyIn_ready (rs := [4]) (by kernel_rfl) (by simp) ?_
          refine AllReadyIn.cons rfl (fun K hK => ?_) ?_
          · go_simp
            refine hK _ _ ?_
            clear hK K
            refine wpAnyIn_ready (rs := [8]) (by kernel_rfl) (by simp) ?_
            refine AllReadyIn.cons rfl (fun K hK => ?_) ?_
            · go_simp
              refine ⟨trivial, ?_⟩
              gi_at_call 192
              refine (callsIn_wide.2 HD1).mono ?_
              rintro e w2 ⟨ra, rm, rc, rfl, s0, s1, s2, s3, s4, s5, s6⟩
              refine hK _ _ ?_
              clear hK K
              refine wpAnyIn_take (i := 9) (v := ?_) rfl rfl (by kernel_rfl) (by kernel_rfl) (by kernel_rfl) (fun _ _ _ h => h) ⟨Or.inl ⟨by rfl, ?_⟩, fun _ => rfl⟩ ?_
              rotate_left
              · intro w9; go_simp; first | done | (with_reducible rfl)
              refine wpAnyIn_take (i := 10) (v := ?_) rfl rfl (by kernel_rfl) (by kernel_rfl) (by kernel_rfl) (fun _ _ _ h => h) ⟨Or.inl ⟨by rfl, ?_⟩, fun _ => rfl⟩ ?_
              rotate_left
              · intro w9; go_simp; first | done | (with_reducible rfl)
              refine wpAnyIn_ready (rs := [11]) (by kernel_rfl) (by simp) ?_
              refine AllReadyIn.cons rfl (fun K hK => ?_) ?_
              · go_simp
                refine hK _ _ ?_
                clear hK K
                refine wpAnyIn_done (by kernel_rfl) ?_ _
                gi_wp2
                exact ⟨s5, s6 HDp.out⟩
              exact AllReadyIn.nil
            exact AllReadyIn.nil
          exact AllReadyIn.nil
        exact AllReadyIn.nil
      refine AllReadyIn.cons rfl (fun K hK => ?_) ?_
      · go_simp
        refine hK _ _ ?_
        clear hK K
        refine wpAnyIn_take (i := 2) (v := ?_) rfl rfl (by kernel_rfl) (by kernel_rfl) (by kernel_rfl) (fun _ _ _ h => h) ⟨Or.inl ⟨by rfl, ?_⟩, fun _ => rfl⟩ ?_
        rotate_left
        · intro w9; go_simp; first | done | (with_reducible rfl)
        refine wpAnyIn_take (i := 3) (v := ?_) rfl rfl (by kernel_rfl) (by kernel_rfl) (by kernel_rfl) (fun _ _ _ h => h) ⟨Or.inl ⟨by rfl, ?_⟩, fun _ => rfl⟩ ?_
        rotate_left
        · intro w9; go_simp; first | done | (with_reducible rfl)
        refine wpAnyIn_ready (rs := [0, 4]) (by kernel_rfl) (by simp) ?_
        refine AllReadyIn.cons rfl (fun K hK => ?_) ?_
        · go_simp
          refine hK _ _ ?_
          clear hK K
          refine wpAnyIn_ready (rs := [4]) (by kernel_rfl) (by simp) ?_
          refine AllReadyIn.cons rfl (fun K hK => ?_) ?_
          · go_simp
            refine hK _ _ ?_
            clear hK K
            refine wpAnyIn_ready (rs := [8]) (by kernel_rfl) (by simp) ?_
            refine AllReadyIn.cons rfl (fun K hK => ?_) ?_
            · go_simp
              refine ⟨trivial, ?_⟩
              gi_at_call 192
              refine (callsIn_wide.2 HD1).mono ?_
              rintro e w2 ⟨ra, rm, rc, rfl, s0, s1, s2, s3, s4, s5, s6⟩
              refine hK _ _ ?_
              clear hK K
              refine wpAnyIn_take (i := 9) (v := ?_) rfl rfl (by kernel_rfl) (by kernel_rfl) (by kernel_rfl) (fun _ _ _ h => h) ⟨Or.inl ⟨by rfl, ?_⟩, fun _ => rfl⟩ ?_
              rotate_left
              · intro w9; go_simp; first | done | (with_reducible rfl)
              refine wpAnyIn_take (i := 10) (v := ?_) rfl rfl (by kernel_rfl) (by kernel_rfl) (by kernel_rfl) (fun _ _ _ h => h) ⟨Or.inl ⟨by rfl, ?_⟩, fun _ => rfl⟩ ?_
              rotate_left
              · intro w9; go_simp; first | done | (with_reducible rfl)
              refine wpAnyIn_ready (rs := [11]) (by kernel_rfl) (by simp) ?_
              refine AllReadyIn.cons rfl (fun K hK => ?_) ?_
              · go_simp
                refine hK _ _ ?_
                clear hK K
                refine wpAnyIn_done (by kernel_rfl) ?_ _
                gi_wp2
                exact ⟨s5, s6 HDp.out⟩
              exact AllReadyIn.nil
            exact AllReadyIn.nil
          exact AllReadyIn.nil
        refine AllReadyIn.cons rfl (fun K hK => ?_) ?_
        · go_simp
          refine hK _ _ ?_
          clear hK K
          refine wpAnyIn_ready (rs := [0, 8]) (by kernel_rfl) (by simp) ?_
          refine AllReadyIn.cons rfl (fun K hK => ?_) ?_
          · go_simp
            refine hK _ _ ?_
            clear hK K
            refine wpAnyIn_ready (rs := [8]) (by kernel_rfl) (by simp) ?_
            refine AllReadyIn.cons rfl (fun K hK => ?_) ?_
            · go_simp
              refine ⟨trivial, ?_⟩
              gi_at_call 192
              refine (callsIn_wide.2 HD1).mono ?_
              rintro e w2 ⟨ra, rm, rc, rfl, s0, s1, s2, s3, s4, s5, s6⟩
              refine hK _ _ ?_
              clear hK K
              refine wpAnyIn_take (i := 9) (v := ?_) rfl rfl (by kernel_rfl) (by kernel_rfl) (by kernel_rfl) (fun _ _ _ h => h) ⟨Or.inl ⟨by rfl, ?_⟩, fun _ => rfl⟩ ?_
              rotate_left
              · intro w9; go_simp; first | done | (with_reducible rfl)
              refine wpAnyIn_take (i := 10) (v := ?_) rfl rfl (by kernel_rfl) (by kernel_rfl) (by kernel_rfl) (fun _ _ _ h => h) ⟨Or.inl ⟨by rfl, ?_⟩, fun _ => rfl⟩ ?_
              rotate_left
              · intro w9; go_simp; first | done | (with_reducible rfl)
              refine wpAnyIn_ready (rs := [11]) (by kernel_rfl) (by simp) ?_
              refine AllReadyIn.cons rfl (fun K hK => ?_) ?_
              · go_simp
                refine hK _ _ ?_
                clear hK K
                refine wpAnyIn_done (by kernel_rfl) ?_ _
                gi_wp2
                exact ⟨s5, s6 HDp.out⟩
              exact AllReadyIn.nil
            exact AllReadyIn.nil
          refine AllReadyIn.cons rfl (fun K hK => ?_) ?_
          · go_simp
            refine ⟨trivial, ?_⟩
            gi_at_call 192
            refine (callsIn_wide.2 HD1).mono ?_
            rintro e w2 ⟨ra, rm, rc, rfl, s0, s1, s2, s3, s4, s5, s6⟩
            refine hK _ _ ?_
            clear hK K
            refine wpAnyIn_ready (rs := [0]) (by kernel_rfl) (by simp) ?_
            refine AllReadyIn.cons rfl (fun K hK => ?_) ?_
            · go_simp
              refine hK _ _ ?_
              clear hK K
              refine wpAnyIn_take (i := 9) (v := ?_) rfl rfl (by kernel_rfl) (by kernel_rfl) (by kernel_rfl) (fun _ _ _ h => h) ⟨Or.inl ⟨by rfl, ?_⟩, fun _ => rfl⟩ ?_
              rotate_left
              · intro w9; go_simp; first | done | (with_reducible rfl)
              refine wpAnyIn_take (i := 10) (v := ?_) rfl rfl (by kernel_rfl) (by kernel_rfl) (by kernel_rfl) (fun _ _ _ h => h) ⟨Or.inl ⟨by rfl, ?_⟩, fun _ => rfl⟩ ?_
              rotate_left
              · intro w9; go_simp; first | done | (with_reducible rfl)
              refine wpAnyIn_ready (rs := [11]) (by kernel_rfl) (by simp) ?_
              refine AllReadyIn.cons rfl (fun K hK => ?_) ?_
              · go_simp
                refine hK _ _ ?_
                clear hK K
                refine wpAnyIn_done (by kernel_rfl) ?_ _
                gi_wp2
                exact ⟨s5, s6 HDp.out⟩
              exact AllReadyIn.nil
            exact AllReadyIn.nil
          exact AllReadyIn.nil
        exact AllReadyIn.nil
      exact AllReadyIn.nil
  case done =>
    rintro D ys W hD hS hI hK
    have hall : ∀ h ∈ l, p h = false := fun h hh => by
      obtain ⟨i, hi⟩ := toldB_mem l 0 hh
      rw [← hS] at hi
      obtain ⟨y, hy, e⟩ := List.mem_map.1 hi
      have := hI.1 y hy
      rw [e] at this
      exact this
    have c2 : W.cell? ⟨w.heap.size + 2, 0, none⟩ = some (.pointer none) := by rw [hI.2.cell (p := ⟨w.heap.size + 2, 0, none⟩) (by simp only; omega)]; exact k2
    have g2 : W.frozen? ⟨w.heap.size + 2, 0, none⟩ = false := by rw [hI.2.frozen (p := ⟨w.heap.size + 2, 0, none⟩) (by simp only; omega)]; exact f2
    have hK2 := (KeepsOthers.setCell W ⟨w.heap.size + 2, 0, none⟩ (.pointer none)).same D _ hK rfl
    have r0 : ((W.setCell ⟨w.heap.size + 2, 0, none⟩ (.pointer none)).putObj D (.deferred none)).cell? ⟨w.heap.size + 2, 0, none⟩ = some (.pointer none) := cell_kept (World.cell?_setCell_same _ _ _ c2) (grownBy_putObj' _ D _) (fun r e => by cases e; exact ⟨_, hK2, rfl⟩)
    have hbW : Below w.heap.size w W := hb0.trans (hI.2.mono (by omega))
    have RR : Hid (LastR w B o base p (.slice va n vc) l (.returned (.pointer none)) ((W.setCell ⟨w.heap.size + 2, 0, none⟩ (.pointer none)).putObj D (.deferred none))) := .inl ⟨hall, rfl, (hbW.setCell (p := ⟨w.heap.size + 2, 0, none⟩) (by simp) _).trans (belowK_b (w := w) (Nat.le_refl _) _ D _ _ (by omega) hK2 rfl rfl)⟩
    clear hall hS hI SQ hbW HO HP hc hfz k0 k1 k2 k3 f2
    gi_wp2
    refine ⟨by simp, .inl ⟨_, _, rfl, run_takeDeferred hK2, ?_⟩⟩
    exact ⟨.pointer none, by simp [results, Tryz.results149, go_sem, r0], RR.out⟩
  case stop =>
    rintro D c pre W hD ⟨A, h, R, hAR, hpre⟩ ⟨rfl, pr, x, rfl, hpr, hpx, hcell, u, hT, hOw, hub⟩ hK
    have hpre2 : pr.map (fun x : AtH l => x.1) ++ [x.1] = toldB (A.length + 1) R ++ [(A.length, h)] := by have := hpre; rw [List.map_append] at this; exact this
    obtain ⟨q1, q2⟩ := List.append_inj' hpre2 rfl
    have ex : x.1 = (A.length, h) := List.head_eq_of_cons_eq q2
    have hR : ∀ y ∈ R, p y = false := fun y hy => by
      obtain ⟨i, hi⟩ := toldB_mem R (A.length + 1) hy
      rw [← q1] at hi
      obtain ⟨z, hz, e⟩ := List.mem_map.1 hi
      have := hpr z hz
      rw [e] at this
      exact this
    have her : l.eraseIdx A.length = A ++ R := by rw [hAR, List.eraseIdx_append_of_length_le (Nat.le_refl _)]; simp
    rw [ex] at hpx hcell hOw
    simp only at hpx hcell hOw
    rw [her] at hOw
    have r0 : (W.putObj D (.deferred none)).cell? ⟨w.heap.size + 2, 0, none⟩ = some (.pointer (some ⟨h.b, h.o, none⟩)) := cell_kept hcell (grownBy_putObj' _ D _) (fun r e => by cases e; exact ⟨_, hK, rfl⟩)
    have hr : ∀ r, some D = some r → w.heap.size ≤ r := fun r e => by cases e; omega
    have RR : Hid (LastR w B o base p (.slice va n vc) l (.returned (.pointer (some ⟨h.b, h.o, none⟩))) (W.putObj D (.deferred none))) := .inr ⟨A, h, R, u, hAR, hpx, hR, rfl, hT.grown hB (grownBy_putObj' _ D _) hr, own_kept hOw hub hv (grownBy_putObj' _ D _) hr, hub⟩
    clear hpre hpre2 q1 q2 hR her hT hOw hub SQ HO HP hc hfz k0 k1 k2 k3 f2 hAR hpx hpr
    gi_wp2
    refine ⟨by simp, .inl ⟨_, _, rfl, run_takeDeferred hK, ?_⟩⟩
    exact ⟨.pointer (some ⟨h.b, h.o, none⟩), by simp [results, Tryz.results149, go_sem, r0], RR.out⟩
end Go.Proofs.YtmidfgjnaebfiaaGreatDoor
/-
  The last one that fits is taken out of two shelves; the one of a key.
-/
namespace Go.Proofs.YtmidfgjnaebfiaaGreatDoor
open Go.ChangeShapes Go.WideShapes Go.ChangeAt Go.RowKit Go.Sort
theorem Took.own {w w' : World} {B o base : Nat} {own : Option Nat} {u v : Value} {m : List Hdl} (h : Took w w' B o own u) (hv : OwnP w base v m) (nB : v.ownBlock ≠ some B) (nO : v.ownBlock = none ∨ v.ownBlock ≠ own) : OwnP w' base v m := by
  obtain ⟨h1, h2⟩ := hv
  refine ⟨h1, ?_⟩
  rcases h2 with h2 | ⟨g, cap, cur, rfl, hg, hh, hr⟩
  · exact .inl h2
  · refine .inr ⟨g, cap, cur, rfl, hg, ?_, hr⟩
    rw [h.block g (Array.getElem?_eq_some_iff.1 hh).1 (fun e => nB (by rw [← e]; rfl)) (by
      rcases nO with e | e
      · cases e
      · exact e)]
    exact hh
theorem Took.below {w w' : World} {B o lo : Nat} {v u : Value} {m : List Hdl} (h : Took w w' B o v.ownBlock u) (hv : OwnP w lo v m) (hB : lo ≤ B) (hlo : lo ≤ w.heap.size) : Below lo w w' :=
  { os := h.os, tape := h.tape, output := h.output, size := h.size, block := fun k hk => h.block k (Nat.lt_of_lt_of_le hk hlo) (by omega) (fun e => by have := own_geP hv k e.symm; omega) }
theorem H2.tookT {w w' : World} {lo B : Nat} {v1 v2 u : Value} {l1 l2 m : List Hdl} (h : H2 w lo B v1 v2 l1 l2) (t : Took w w' B 0 v1.ownBlock u) (ho : OwnP w' lo u m) (hu : u.ownBlock = v1.ownBlock) (hlo : lo ≤ w.heap.size) : H2 w' lo B u v2 m l2 ∧ Below lo w w' :=
  ⟨⟨t.cB, (t.cO 1 (by omega)).trans h.c1, fun o => (t.fr o).trans (h.fr o), ⟨ho, t.own h.tp.b h.n2 (by
      rcases h.tp.ne with e | e
      · cases e2 : v2.ownBlock with
        | none => exact .inl rfl
        | some q => right; rw [e]; simp
      · exact .inr fun e2 => e e2.symm), by rw [hu]; exact h.tp.ne⟩, Nat.lt_of_lt_of_le h.lt t.size, h.le, by rw [hu]; exact h.n1, h.n2⟩, t.below h.tp.a h.le hlo⟩
theorem H2.tookK {w w' : World} {lo B : Nat} {v1 v2 u : Value} {l1 l2 m : List Hdl} (h : H2 w lo B v1 v2 l1 l2) (t : Took w w' B 1 v2.ownBlock u) (ho : OwnP w' lo u m) (hu : u.ownBlock = v2.ownBlock) (hlo : lo ≤ w.heap.size) : H2 w' lo B v1 u l1 m ∧ Below lo w w' :=
  ⟨⟨(t.cO 0 (by omega)).trans h.c0, t.cB, fun o => (t.fr o).trans (h.fr o), ⟨t.own h.tp.a h.n1 h.tp.ne, ho, by rw [hu]; exact h.tp.ne⟩, Nat.lt_of_lt_of_le h.lt t.size, h.le, h.n1, by rw [hu]; exact h.n2⟩, t.below h.tp.b h.le hlo⟩
/-- What takeLast of two shelves tells. -/
def Last2 (w : World) (lo B : Nat) (p : Hdl → Bool) (v1 v2 : Value) (l1 l2 : List Hdl) (e : Ending) (w' : World) : Prop :=
  ((∀ h ∈ l1 ++ l2, p h = false) ∧ e = .returned (.pointer none) ∧ Below w.heap.size w w' ∧ H2 w' lo B v1 v2 l1 l2) ∨
  (∃ A h R u, l1 = A ++ h :: R ∧ p h = true ∧ (∀ x ∈ R, p x = false) ∧ e = .returned (.pointer (some ⟨h.b, h.o, none⟩)) ∧ H2 w' lo B u v2 (A ++ R) l2 ∧ Below lo w w') ∨
  (∃ A h R u, l2 = A ++ h :: R ∧ p h = true ∧ (∀ x ∈ l1, p x = false) ∧ (∀ x ∈ R, p x = false) ∧ e = .returned (.pointer (some ⟨h.b, h.o, none⟩)) ∧ H2 w' lo B v1 u l1 (A ++ R) ∧ Below lo w w')
set_option maxHeartbeats 4000000 in
theorem takeLast2_any (w : World) (lo B g : Nat) (lb : Array Value) (p : Hdl → Bool) (v1 v2 : Value) (l1 l2 : List Hdl) (h : H2 w lo B v1 v2 l1 l2) (hl1 : l1.length ≤ 1000) (hl2 : l2.length ≤ 1000) (hlo : lo ≤ w.heap.size) (PH : PredH w.heap.size w g lb p (l1 ++ l2)) :
    Calls Tryz.prog 148 #[.pointer (some ⟨B, 0, none⟩), .func (.func g) #[] lb] w fun e w' => Last2 w lo B p v1 v2 l1 l2 e w' := by
  have C1 : Hid (Calls Tryz.prog 149 #[.pointer (some ⟨B, 0, none⟩), .func (.func g) #[] lb] w fun e w' => ((∀ h ∈ l1, p h = false) ∧ e = .returned (.pointer none) ∧ Below w.heap.size w w') ∨ (∃ x, e = .returned (.pointer (some x)) ∧ Last2 w lo B p v1 v2 l1 l2 e w')) := by
    refine (takeLast_any w B 0 lo g lb p v1 l1 h.c0 (h.fr 0) h.tp.a hl1 h.n1 (PH.sub (fun x hx => List.mem_append_left _ hx))).mono ?_
    rintro e w' (hr | ⟨A, q, R, u, h1, h2, h3, h4, h5, h6, h7⟩)
    · exact .inl hr
    · obtain ⟨k1, k2⟩ := h.tookT h5 h6 h7 hlo
      exact .inr ⟨_, h4, .inr (.inl ⟨A, q, R, u, h1, h2, h3, h4, k1, k2⟩)⟩
  have C2 : Hid (∀ X, Below w.heap.size w X → (∀ h ∈ l1, p h = false) → Calls Tryz.prog 149 #[.pointer (some ⟨B, 1, none⟩), .func (.func g) #[] lb] X fun e w' => ∃ x, e = .returned (.pointer x) ∧ Last2 w lo B p v1 v2 l1 l2 e w') := fun X hX hp1 => by
    have hx := h.below hX
    refine (takeLast_any X B 1 lo g lb p v2 l2 hx.c1 (hx.fr 1) hx.tp.b hl2 hx.n2 ((PH.sub (fun x hx => List.mem_append_right _ hx)).up hX.size hX)).mono ?_
    rintro e w' (⟨r1, r2, r3⟩ | ⟨A, q, R, u, h1, h2, h3, h4, h5, h6, h7⟩)
    · refine ⟨_, r2, .inl ⟨fun y hy => ?_, r2, hX.trans (r3.mono hX.size), hx.below r3⟩⟩
      rcases List.mem_append.1 hy with hy | hy
      · exact hp1 y hy
      · exact r1 y hy
    · obtain ⟨k1, k2⟩ := hx.tookK h5 h6 h7 (Nat.le_trans hlo hX.size)
      exact ⟨_, h4, .inr (.inr ⟨A, q, R, u, h1, h2, hp1, h3, h4, k1, (hX.mono hlo).trans k2⟩)⟩
  clear h PH hl1 hl2 hlo
  go_enter Tryz.func148, Tryz.ntmps148
  go_wp2_with fail
  refine C1.out.mono ?_
  rintro e w1 (⟨hp1, rfl, hb1⟩ | ⟨x, rfl, hr⟩)
  · have C3 := C2.out w1 hb1 hp1
    clear C1 C2 hp1 hb1
    go_wp2_with fail
    refine C3.mono ?_
    rintro e w2 ⟨x, rfl, hr⟩
    have HR : Hid (Last2 w lo B p v1 v2 l1 l2 (.returned (.pointer x)) w2) := hr
    clear hr C3
    go_wp2_with fail
    go_ret
    exact HR.out
  · have HR : Hid (Last2 w lo B p v1 v2 l1 l2 (.returned (.pointer (some x))) w1) := hr
    clear hr C1 C2
    go_wp2_with fail
    go_ret
    exact HR.out
set_option maxHeartbeats 4000000 in
theorem takeKey_any (w : World) (lo B : Nat) (key : ByteArray) (v1 v2 : Value) (l1 l2 : List Hdl) (h : H2 w lo B v1 v2 l1 l2) (hl1 : l1.length ≤ 1000) (hl2 : l2.length ≤ 1000) (hlo : lo ≤ w.heap.size) (hth : ∀ h ∈ l1 ++ l2, HThere w h) (hts : ∀ h ∈ l1 ++ l2, h.x.ts.length ≤ 1048576) :
    Calls Tryz.prog 80 #[.pointer (some ⟨B, 0, none⟩), .string key] w fun e w' => ∃ X, Below w.heap.size w X ∧ Last2 X lo B (fun h => isKey key h.x) v1 v2 l1 l2 e w' := by
  have HK : Hid (Calls Tryz.prog 108 #[.string key] w fun e w' => e = .returned (.func (.func 162) #[] #[.pointer (some ⟨w.heap.size, 0, none⟩)]) ∧ w'.cell? ⟨w.heap.size, 0, none⟩ = some (.string key) ∧ w.heap.size < w'.heap.size ∧ Below w.heap.size w w') := hasKey_any w key
  have HT : Hid (∀ X, Below w.heap.size w X → X.cell? ⟨w.heap.size, 0, none⟩ = some (.string key) → w.heap.size < X.heap.size → Calls Tryz.prog 148 #[.pointer (some ⟨B, 0, none⟩), .func (.func 162) #[] #[.pointer (some ⟨w.heap.size, 0, none⟩)]] X fun e w' => ∃ x, e = .returned (.pointer x) ∧ Last2 X lo B (fun h => isKey key h.x) v1 v2 l1 l2 e w') := fun X hX hc hz => by
    refine (takeLast2_any X lo B 162 #[.pointer (some ⟨w.heap.size, 0, none⟩)] (fun h => isKey key h.x) v1 v2 l1 l2 (h.below hX) hl1 hl2 (Nat.le_trans hlo hX.size) ((predKey X.heap.size w.heap.size key hz).h (l := l1 ++ l2) hc (Nat.le_refl _) (fun x hx => (hth x hx).keep hX) hts)).mono ?_
    rintro e w' hr
    rcases id hr with ⟨_, r2, _⟩ | ⟨_, _, _, _, _, _, _, r2, _⟩ | ⟨_, _, _, _, _, _, _, _, r2, _⟩
    · exact ⟨_, r2, hr⟩
    · exact ⟨_, r2, hr⟩
    · exact ⟨_, r2, hr⟩
  clear h hl1 hl2 hlo hth hts
  go_enter Tryz.func80, Tryz.ntmps80
  go_wp2_with fail
  refine HK.out.mono ?_
  rintro e w1 ⟨rfl, hc1, hz1, hb1⟩
  have CT := HT.out w1 hb1 hc1 hz1
  have HB1 : Hid (Below w.heap.size w w1) := hb1
  clear HK HT hb1 hc1 hz1
  go_wp2_with fail
  refine CT.mono ?_
  rintro e w2 ⟨x, rfl, hr⟩
  have HR : Hid (Last2 w1 lo B (fun h => isKey key h.x) v1 v2 l1 l2 (.returned (.pointer x)) w2) := hr
  clear hr CT
  go_wp2_with fail
  go_ret
  exact ⟨w1, HB1.out, HR.out⟩
end Go.Proofs.YtmidfgjnaebfiaaGreatDoor
/-
  DropEntry, by the model and by the program.
-/
namespace Go.Proofs.YtmidfgjnaebfiaaGreatDoor
open Go.ChangeShapes Go.WideShapes Go.ChangeAt Go.RowKit Go.Sort
open Classical in
noncomputable def dropA (bu gu : Int) (tl kl : List Ent) (key : ByteArray) : SAns :=
  if (peekR bu gu tl kl key).1 ≠ 0 then badA (peekR bu gu tl kl key).1 else
  ⟨0, bu, gu, tl.filter fun x => !isKey key x, kl.filter fun x => !isKey key x⟩
theorem specDropA_any (w : World) (bu gu : Int) (ta ka : Option Addr) (tc kc : Nat) (tl kl : List (Ent × EntR)) (key : ByteArray) (hl : tl.length ≤ 1048576) (hk : kl.length ≤ 1048576) (hto : ∀ q ∈ tl ++ kl, EntOk q.1) (hft : ∀ q ∈ tl ++ kl, EntFit q.1) (ht : EntsIn w ta tl) (hq : EntsIn w ka kl) :
    Calls Tryz.prog 39 #[.agg #[.int .i64 bu, .int .i64 gu, .slice ta tl.length tc, .slice ka kl.length kc], .string key] w fun e w' => StoAns (dropA bu gu (tl.map Prod.fst) (kl.map Prod.fst) key) w.heap.size e w' ∧ Below w.heap.size w w' := by
  refine (specDropE_any w bu gu ta ka tc kc tl kl key hl hk hto hft ht hq).mono ?_
  rintro e w' ⟨hr, hb⟩
  refine ⟨?_, hb⟩
  unfold dropA
  by_cases hc : (peekR bu gu (tl.map Prod.fst) (kl.map Prod.fst) key).1 = 0
  · rw [if_pos hc] at hr
    rw [if_neg (by simpa using hc)]
    obtain ⟨a1, k1, n1, a2, k2, n2, m1, m2, rfl, q1, q2, o⟩ := hr
    exact StoAns.got o.lv (Nat.le_refl _) q1 q2
  · rw [if_neg hc] at hr
    rw [if_pos hc]
    obtain ⟨a1, k1, n1, a2, k2, n2, m1, m2, rfl, q1, q2, o⟩ := hr
    exact StoAns.got o.lv (Nat.le_refl _) q1 q2
theorem no_key {key : ByteArray} {P Q : List Ent} {y : Ent} (hn : NdK (P ++ y :: Q)) (hy : isKey key y = true) : ∀ z ∈ P ++ Q, isKey key z = false := by
  obtain ⟨_, h2, h3⟩ := hn.app
  obtain ⟨_, _, h4⟩ := NdK.app (L := [y]) (M := Q) h2
  intro z hz
  cases hk : isKey key z with
  | false => rfl
  | true =>
    have e := isKey_eq hy hk
    rcases List.mem_append.1 hz with hz | hz
    · exact absurd e.symm (h3 z hz y (by simp))
    · exact absurd e (h4 y (by simp) z hz)
theorem keep_all {key : ByteArray} {L : List Ent} (h : ∀ z ∈ L, isKey key z = false) : L.filter (fun x => !isKey key x) = L := List.filter_eq_self.2 fun a ha => by simp [h a ha]
/-- Two shelves out of which the one of a key was taken. -/
theorem last2_drop {X w' : World} {lo B : Nat} {key : ByteArray} {v1 v2 : Value} {l1 l2 : List Hdl} {e : Ending} (h : Last2 X lo B (fun h => isKey key h.x) v1 v2 l1 l2 e w') (hn : NdK ((l1 ++ l2).map Hdl.x)) (hlo : lo ≤ X.heap.size) :
    ∃ u1 u2 m1 m2, H2 w' lo B u1 u2 m1 m2 ∧ m1.map Hdl.x = (l1.map Hdl.x).filter (fun x => !isKey key x) ∧ m2.map Hdl.x = (l2.map Hdl.x).filter (fun x => !isKey key x) ∧ (∀ h ∈ m1 ++ m2, h ∈ l1 ++ l2) ∧ m1.length + m2.length ≤ l1.length + l2.length ∧ Below lo X w' := by
  have hall : ∀ (L : List Hdl), (∀ h ∈ L, isKey key h.x = false) → L.map Hdl.x = (L.map Hdl.x).filter (fun x => !isKey key x) := fun L hL => (keep_all (fun z hz => by
    obtain ⟨h, hh, rfl⟩ := List.mem_map.1 hz
    exact hL h hh)).symm
  rcases h with ⟨h1, _, h3, h4⟩ | ⟨A, q, R, u, rfl, h2, h3, _, h5, h6⟩ | ⟨A, q, R, u, rfl, h2, h3, h4, _, h5, h6⟩
  · exact ⟨v1, v2, l1, l2, h4, hall l1 (fun h hh => h1 h (List.mem_append_left _ hh)), hall l2 (fun h hh => h1 h (List.mem_append_right _ hh)), fun h hh => hh, Nat.le_refl _, h3.mono hlo⟩
  · have nk := no_key (key := key) (P := A.map Hdl.x) (y := q.x) (Q := R.map Hdl.x ++ l2.map Hdl.x) (by simpa using hn) h2
    refine ⟨u, v2, A ++ R, l2, h5, ?_, hall l2 (fun h hh => nk _ (by simp; exact .inr (.inr ⟨h, hh, rfl⟩))), fun h hh => ?_, (by simp; try omega), h6⟩
    · rw [List.map_append, List.map_append, List.map_cons, List.filter_append, List.filter_cons, if_neg (by simp [h2]), keep_all (fun z hz => nk z (List.mem_append_left _ hz)), keep_all (fun z hz => nk z (List.mem_append_right _ (List.mem_append_left _ hz)))]
    · simp only [List.mem_append, List.mem_cons] at hh ⊢
      rcases hh with (hh | hh) | hh
      · exact .inl (.inl hh)
      · exact .inl (.inr (.inr hh))
      · exact .inr hh
  · have nk := no_key (key := key) (P := l1.map Hdl.x ++ A.map Hdl.x) (y := q.x) (Q := R.map Hdl.x) (by simpa using hn) h2
    refine ⟨v1, u, l1, A ++ R, h5, hall l1 (fun h hh => h3 h hh), ?_, fun h hh => ?_, (by simp; try omega), h6⟩
    · rw [List.map_append, List.map_append, List.map_cons, List.filter_append, List.filter_cons, if_neg (by simp [h2]), keep_all (fun z hz => nk z (List.mem_append_left _ (List.mem_append_right _ hz))), keep_all (fun z hz => nk z (List.mem_append_right _ hz))]
    · simp only [List.mem_append, List.mem_cons] at hh ⊢
      rcases hh with hh | hh | hh
      · exact .inl hh
      · exact .inr (.inl hh)
      · exact .inr (.inr (.inr hh))
set_option maxRecDepth 100000 in
set_option maxHeartbeats 16000000 in
theorem implDropE_any (w : World) (bu gu : Int) (ta ka : Option Addr) (tc kc : Nat) (tl kl : List (Ent × EntR)) (key : ByteArray) (hset : SetIs w) (hl : tl.length ≤ 1048576) (hk : kl.length ≤ 1048576) (hto : ∀ q ∈ tl ++ kl, EntOk q.1) (hts : ∀ q ∈ tl ++ kl, ∀ t ∈ q.1.ts, t.size ≤ 1048576) (ht : EntsIn w ta tl) (hq : EntsIn w ka kl) :
    Calls Tryz.prog 40 #[.agg #[.int .i64 bu, .int .i64 gu, .slice ta tl.length tc, .slice ka kl.length kc], .string key] w fun e w' => StoAns (dropA bu gu (tl.map Prod.fst) (kl.map Prod.fst) key) w.heap.size e w' ∧ Below w.heap.size w w' := by
  have HKF : Hid (∀ X, Below w.heap.size w X → Calls Tryz.prog 70 #[.agg #[.int .i64 bu, .int .i64 gu, .slice ta tl.length tc, .slice ka kl.length kc], .string key] X fun r w' => r = .returned (.int .i64 (peekR bu gu (tl.map Prod.fst) (kl.map Prod.fst) key).1) ∧ Below X.heap.size X w') := fun X hb => by
    rw [← keyC_peek]; exact keyFault_any X bu gu ta ka tc kc tl kl key (hset.below hb) hl hk hto (ht.keep hb) (hq.keep hb)
  have HSO : Hid (∀ X, Below w.heap.size w X → Calls Tryz.prog 72 #[.agg #[.int .i64 bu, .int .i64 gu, .slice ta tl.length tc, .slice ka kl.length kc]] X fun e w' => (∃ v1 v2, e = .returned (.agg #[v1, v2]) ∧ TwoP w' X.heap.size v1 v2 (hdlsA ta tl) (hdlsA ka kl)) ∧ Below X.heap.size X w') := fun X hb => shelvesOf_any X bu gu ta ka tc kc tl kl hl hk (ht.keep hb) (hq.keep hb)
  have HTH : Hid (∀ X, Below w.heap.size w X → ∀ h ∈ hdl2 ta ka tl kl, HThere X h) := fun X hb => hdl2_there (ht.keep hb) (hq.keep hb)
  have HTS : Hid (∀ h ∈ hdl2 ta ka tl kl, ∀ t ∈ h.x.ts, t.size ≤ 1048576) := fun h hh => by
    have hm : h.x ∈ (tl ++ kl).map Prod.fst := by rw [List.map_append, ← hdl2_x ta ka]; exact List.mem_map_of_mem hh
    obtain ⟨q, hq, e⟩ := List.mem_map.1 hm
    rw [← e]; exact hts q hq
  have HX2 : Hid ((hdl2 ta ka tl kl).map Hdl.x = tl.map Prod.fst ++ kl.map Prod.fst) := hdl2_x _ _ _ _
  obtain ⟨W, hW⟩ : ∃ W, W = (w.alloc (.cells #[.int .i64 bu, .int .i64 gu, .slice ta tl.length tc, .slice ka kl.length kc] 38)).alloc (.cells #[.int .i64 0, .int .i64 0, .int .i64 0, .slice none 0 0, .slice none 0 0] 46) := ⟨_, rfl⟩
  have HW : Hid (W = (w.alloc (.cells #[.int .i64 bu, .int .i64 gu, .slice ta tl.length tc, .slice ka kl.length kc] 38)).alloc (.cells #[.int .i64 0, .int .i64 0, .int .i64 0, .slice none 0 0, .slice none 0 0] 46)) := hW
  have K0 : Hid (Below w.heap.size w W ∧ S4 W w.heap.size (.int .i64 bu) (.int .i64 gu) (.slice ta tl.length tc) (.slice ka kl.length kc) ∧ S5 W (w.heap.size + 1) (.int .i64 0) (.int .i64 0) (.int .i64 0) (.slice none 0 0) (.slice none 0 0) ∧ w.heap.size + 2 ≤ W.heap.size) := by
    rw [hW]
    refine ⟨((Below.refl _ _).alloc (Nat.le_refl _) _).alloc (by simp) _, (S4.new w _ _ _ _ _).keep ((Below.refl _ _).alloc (Nat.le_refl _) _), ?_, by simp⟩
    have := S5.new (w.alloc (.cells #[.int .i64 bu, .int .i64 gu, .slice ta tl.length tc, .slice ka kl.length kc] 38)) (.int .i64 0) (.int .i64 0) (.int .i64 0) (.slice none 0 0) (.slice none 0 0) 46
    simpa using this
  obtain ⟨A, hA⟩ : ∃ A, dropA bu gu (tl.map Prod.fst) (kl.map Prod.fst) key = A := ⟨_, rfl⟩
  rw [hA]
  unfold dropA at hA
  have HA : Hid (_ = A) := hA
  have HL1 : Hid ((hdlsA ta tl).map Hdl.x = tl.map Prod.fst ∧ (hdlsA ka kl).map Hdl.x = kl.map Prod.fst ∧ (hdlsA ta tl).length = tl.length ∧ (hdlsA ka kl).length = kl.length) := ⟨hdlsA_x _ _, hdlsA_x _ _, hdlsA_len _ _, hdlsA_len _ _⟩
  clear hW hl hk hto hts ht hq hA hset
  obtain ⟨P, hP⟩ : ∃ P, peekR bu gu (tl.map Prod.fst) (kl.map Prod.fst) key = P := ⟨_, rfl⟩
  have HP : Hid (peekR bu gu (tl.map Prod.fst) (kl.map Prod.fst) key = P) := hP
  rw [hP] at HKF HA
  clear hP
  obtain ⟨c, x⟩ := P
  simp only at HKF HA
  have e0 := K0.out.2.1.c0
  have e1 := K0.out.2.1.c1
  have e2 := K0.out.2.1.c2
  have e3 := K0.out.2.1.c3
  rw [HW.out] at e0 e1 e2 e3
  obtain ⟨tn, htn⟩ : ∃ n, Hid (tl.length = n) := ⟨_, rfl⟩
  obtain ⟨kn, hkn⟩ : ∃ n, Hid (kl.length = n) := ⟨_, rfl⟩
  rw [htn.out, hkn.out] at HKF HSO HW K0 HL1 ⊢
  rw [htn.out] at e0 e1 e2 e3
  rw [hkn.out] at e0 e1 e2 e3
  by_cases hc : c = 0
  · subst hc
    obtain ⟨hst, hfi⟩ := peekR_zero (bu := bu) (gu := gu) (tl := tl.map Prod.fst) (kl := kl.map Prod.fst) (key := key) (by rw [HP.out])
    rw [HP.out] at hfi
    simp only at hfi
    have hln := (storeC_zero hst).2.1
    rw [List.length_map, List.length_map, htn.out, hkn.out] at hln
    have HZC : Hid (∀ h ∈ hdl2 ta ka tl kl, entC h.x = 0) := fun h hh => storeC_ent hst h.x (by rw [← HX2.out]; exact List.mem_map_of_mem hh)
    have HTK : Hid (∀ X B lo v1 v2, Below w.heap.size w X → H2 X lo B v1 v2 (hdlsA ta tl) (hdlsA ka kl) → lo ≤ X.heap.size → Calls Tryz.prog 80 #[.pointer (some ⟨B, 0, none⟩), .string key] X fun e w' => ∃ x u1 u2 m1 m2, e = .returned (.pointer x) ∧ H2 w' lo B u1 u2 m1 m2 ∧ m1.map Hdl.x = (tl.map Prod.fst).filter (fun x => !isKey key x) ∧ m2.map Hdl.x = (kl.map Prod.fst).filter (fun x => !isKey key x) ∧ (∀ h ∈ m1 ++ m2, h ∈ hdl2 ta ka tl kl) ∧ m1.length + m2.length ≤ 40 ∧ Below lo X w') := fun X B lo v1 v2 hb h hlo => by
      have q1 := HL1.out.2.2.1
      have q2 := HL1.out.2.2.2
      refine (takeKey_any X lo B key v1 v2 _ _ h (by omega) (by omega) hlo (fun h hh => HTH.out X hb h hh) (fun h hh => (entC_sizes (HZC.out h hh)).2)).mono ?_
      rintro e w' ⟨Y, hY, hr⟩
      have hx : ∃ x, e = .returned (.pointer x) := by
        rcases hr with ⟨_, r2, _⟩ | ⟨_, _, _, _, _, _, _, r2, _⟩ | ⟨_, _, _, _, _, _, _, _, r2, _⟩ <;> exact ⟨_, r2⟩
      obtain ⟨u1, u2, m1, m2, g1, g2, g3, g4, g5, g6⟩ := last2_drop hr (by have := storeC_nd hst; rw [← HX2.out] at this; exact this) (Nat.le_trans hlo hY.size)
      obtain ⟨x, rfl⟩ := hx
      exact ⟨x, u1, u2, m1, m2, rfl, g1, by rw [g2, HL1.out.1], by rw [g3, HL1.out.2.1], g4, by omega, (hY.mono hlo).trans g6⟩
    have HSL : Hid (∀ X v1 v2 base m1 m2, Below w.heap.size w X → TwoP X base v1 v2 m1 m2 → m1.map Hdl.x = (tl.map Prod.fst).filter (fun x => !isKey key x) → m2.map Hdl.x = (kl.map Prod.fst).filter (fun x => !isKey key x) → (∀ h ∈ m1 ++ m2, h ∈ hdl2 ta ka tl kl) → m1.length + m2.length ≤ 40 → Calls Tryz.prog 82 #[.agg #[v1, v2], .agg #[.int .i64 bu, .int .i64 gu, .slice ta tn tc, .slice ka kn kc]] X fun e w' => (∃ a1 k1 n1 a2 k2 n2 m1 m2, e = .returned (.agg #[.int .i64 bu, .int .i64 gu, .slice a1 n1 k1, .slice a2 n2 k2]) ∧ m1.map Prod.fst = (tl.map Prod.fst).filter (fun x => !isKey key x) ∧ m2.map Prod.fst = (kl.map Prod.fst).filter (fun x => !isKey key x) ∧ StoLV w' X.heap.size (.slice a1 n1 k1) (.slice a2 n2 k2) m1 m2) ∧ Below X.heap.size X w') := fun X v1 v2 base m1 m2 hb h g1 g2 g3 g4 => by
      refine (storeLike_any X v1 v2 base _ _ bu gu ta ka tc kc tn kn h (by omega) (fun x hx => HTH.out X hb x (g3 x hx)) (fun x hx => HZC.out x (g3 x hx)) (fun x hx => HTS.out x (g3 x hx))).mono ?_
      rintro e w' ⟨⟨a1, k1, n1, a2, k2, n2, m1, m2, rfl, q1, q2, o⟩, hb'⟩
      exact ⟨⟨a1, k1, n1, a2, k2, n2, m1, m2, rfl, by rw [q1, g1], by rw [q2, g2], o.lv⟩, hb'⟩
    have HAe : Hid (A = ⟨0, bu, gu, (tl.map Prod.fst).filter (fun x => !isKey key x), (kl.map Prod.fst).filter (fun x => !isKey key x)⟩) := by have := HA.out; simp only [ne_eq, not_true_eq_false, if_false] at this; exact this.symm
    clear HA HP HX2 HTH HTS HZC hst hfi hln htn hkn HL1
    go_enter Tryz.func40, Tryz.ntmps40
    go_wp2_with fail
    rw [← HW.out]
    refine (HKF.out _ K0.out.1).mono ?_
    rintro r0 w1 ⟨rfl, hb1⟩
    have K1 : Hid (Below w.heap.size w w1 ∧ S4 w1 w.heap.size (.int .i64 bu) (.int .i64 gu) (.slice ta tn tc) (.slice ka kn kc) ∧ S5 w1 (w.heap.size + 1) (.int .i64 0) (.int .i64 0) (.int .i64 0) (.slice none 0 0) (.slice none 0 0) ∧ w.heap.size + 2 ≤ w1.heap.size) := ⟨K0.out.1.trans (hb1.mono K0.out.1.size), K0.out.2.1.keep hb1, K0.out.2.2.1.keep hb1, by have := K0.out.2.2.2; have := hb1.size; omega⟩
    clear K0 HW hb1 HKF e0 e1 e2 e3
    have e0 := K1.out.2.1.c0
    have e1 := K1.out.2.1.c1
    have e2 := K1.out.2.1.c2
    have e3 := K1.out.2.1.c3
    go_wp2_with fail
    refine (HSO.out _ K1.out.1).mono ?_
    rintro r0 w2 ⟨⟨v1, v2, rfl, tp⟩, hb2⟩
    obtain ⟨b1, d1, rfl, _⟩ := tp.a.form
    obtain ⟨b2, d2, rfl, _⟩ := tp.b.form
    generalize (hdlsA ta tl).length = l1 at *
    generalize (hdlsA ka kl).length = l2 at *
    obtain ⟨V2, hV2⟩ : ∃ V, V = w2.alloc (.cells #[.slice b1 l1 d1, .slice b2 l2 d2] 106) := ⟨_, rfl⟩
    have HV2 : Hid (V2 = w2.alloc (.cells #[.slice b1 l1 d1, .slice b2 l2 d2] 106)) := hV2
    have aV2 : Below w2.heap.size w2 V2 := by rw [hV2]; exact (Below.refl _ _).alloc (Nat.le_refl _) _
    have bV2 : Below w1.heap.size w1 V2 := hb2.trans (aV2.mono hb2.size)
    have hh2 : H2 V2 w1.heap.size w2.heap.size (.slice b1 l1 d1) (.slice b2 l2 d2) (hdlsA ta tl) (hdlsA ka kl) := by rw [hV2]; exact H2.new tp hb2.size _
    have HKW : Hid (∀ X, Below w1.heap.size w1 X → Below w.heap.size w X ∧ S4 X w.heap.size (.int .i64 bu) (.int .i64 gu) (.slice ta tn tc) (.slice ka kn kc) ∧ S5 X (w.heap.size + 1) (.int .i64 0) (.int .i64 0) (.int .i64 0) (.slice none 0 0) (.slice none 0 0) ∧ w.heap.size + 2 ≤ X.heap.size) := fun X hX => ⟨K1.out.1.trans (hX.mono K1.out.1.size), K1.out.2.1.keep hX, K1.out.2.2.1.keep hX, by have := K1.out.2.2.2; have := hX.size; omega⟩
    have CT := HTK.out V2 w2.heap.size w1.heap.size _ _ (HKW.out _ bV2).1 hh2 bV2.size
    have K2 : Hid (Below w1.heap.size w1 V2) := bV2
    clear hV2 aV2 bV2 hb2 tp K1 HSO e0 e1 e2 e3 hh2 HTK
    go_wp2_with fail
    rw [← HV2.out]
    refine CT.mono ?_
    rintro r0 w3 ⟨xp, u1, u2, m1, m2, rfl, hh3, g1, g2, g3, g4, hb3⟩
    have b3 : Below w1.heap.size w1 w3 := K2.out.trans hb3
    obtain ⟨bw3, s43, s53, z3⟩ := HKW.out _ b3
    have CSL := HSL.out w3 u1 u2 _ m1 m2 bw3 hh3.tp g1 g2 g3 g4
    have y0 := hh3.c0
    have y1 := hh3.c1
    obtain ⟨f1, c1, rfl, _⟩ := hh3.tp.a.form
    obtain ⟨f2, c2, rfl, _⟩ := hh3.tp.b.form
    generalize m1.length = n1 at *
    generalize m2.length = n2 at *
    have e0 := s43.c0
    have e1 := s43.c1
    have e2 := s43.c2
    have e3 := s43.c3
    have K3 : Hid (Below w.heap.size w w3 ∧ S5 w3 (w.heap.size + 1) (.int .i64 0) (.int .i64 0) (.int .i64 0) (.slice none 0 0) (.slice none 0 0) ∧ w.heap.size + 2 ≤ w3.heap.size) := ⟨bw3, s53, z3⟩
    clear CT K2 HKW HV2 hh3 g1 g2 g3 g4 hb3 b3 bw3 s43 s53 z3 HSL
    go_wp2_with fail
    refine CSL.mono ?_
    rintro r0 w4 ⟨⟨a1, k1, p1, a2, k2, p2, j1, j2, rfl, q1, q2, o⟩, hb4⟩
    have K4 : Hid (Below w.heap.size w w4 ∧ StoLV w4 w3.heap.size (.slice a1 p1 k1) (.slice a2 p2 k2) j1 j2 ∧ w.heap.size + 2 ≤ w3.heap.size) := ⟨K3.out.1.trans (hb4.mono K3.out.1.size), o, K3.out.2.2⟩
    have hs5 := K3.out.2.1.keep hb4
    have z0 := hs5.c0
    have z1 := hs5.c1
    have z2 := hs5.c2
    have z3 := hs5.c3
    have z4 := hs5.c4
    have zf0 := hs5.fr 0
    have zf1 := hs5.fr 1
    have zf2 := hs5.fr 2
    have zf3 := hs5.fr 3
    have zf4 := hs5.fr 4
    have HQ : Hid (j1.map Prod.fst = (tl.map Prod.fst).filter (fun x => !isKey key x) ∧ j2.map Prod.fst = (kl.map Prod.fst).filter (fun x => !isKey key x)) := ⟨q1, q2⟩
    clear hs5 K3 o hb4 CSL q1 q2 e0 e1 e2 e3 y0 y1
    go_wp2_with fail
    refine bodyPost_ret (v := .agg #[.int .i64 0, .int .i64 bu, .int .i64 gu, .slice a1 p1 k1, .slice a2 p2 k2]) (by simp [results, Tryz.results40, go_sem, z0, z1, z2, z3, z4]) rfl ?_
    have hlt : w.heap.size + 1 < w3.heap.size := by have := K4.out.2.2; omega
    exact ⟨(StoAns.got (((((K4.out.2.1.off1 _ hlt).off1 _ hlt).off1 _ hlt).off1 _ hlt).off1 _ hlt) (Nat.le_trans (Nat.le_succ _) (Nat.le_of_lt hlt)) HQ.out.1 HQ.out.2).of HAe.out, ((((K4.out.1.setCell (by simp) _).setCell (by simp) _).setCell (by simp) _).setCell (by simp) _).setCell (by simp) _⟩
  · have HAe : Hid (A = badA c) := by have := HA.out; rw [if_pos hc] at this; exact this.symm
    clear HA HP HSO HX2 HTH HTS htn hkn HL1
    go_enter Tryz.func40, Tryz.ntmps40
    go_wp2_with fail
    rw [← HW.out]
    refine (HKF.out _ K0.out.1).mono ?_
    rintro r0 w1 ⟨rfl, hb1⟩
    have HB : Hid (Below w.heap.size w w1) := K0.out.1.trans (hb1.mono K0.out.1.size)
    have hs5 := K0.out.2.2.1.keep hb1
    have z0 := hs5.c0
    have z1 := hs5.c1
    have z2 := hs5.c2
    have z3 := hs5.c3
    have z4 := hs5.c4
    have zf0 := hs5.fr 0
    have zf1 := hs5.fr 1
    have zf2 := hs5.fr 2
    have zf3 := hs5.fr 3
    have zf4 := hs5.fr 4
    clear K0 HW hb1 HKF e0 e1 e2 e3 hs5
    go_wp2_with fail
    refine bodyPost_ret (v := .agg #[.int .i64 c, .int .i64 0, .int .i64 0, .slice none 0 0, .slice none 0 0]) (by simp [results, Tryz.results40, go_sem, z0, z1, z2, z3, z4]) rfl ?_
    exact ⟨(StoAns.bad _ _ _).of HAe.out, ((((HB.out.setCell (by simp) _).setCell (by simp) _).setCell (by simp) _).setCell (by simp) _).setCell (by simp) _⟩
end Go.Proofs.YtmidfgjnaebfiaaGreatDoor
/-
  6 cells that may be written.
-/
namespace Go.Proofs.YtmidfgjnaebfiaaGreatDoor
open Go.ChangeShapes Go.WideShapes Go.ChangeAt Go.RowKit
structure S6 (w : World) (b : Nat) (v0 v1 v2 v3 v4 v5 : Value) : Prop where
  c0 : w.cell? ⟨b, 0, none⟩ = some v0
  c1 : w.cell? ⟨b, 1, none⟩ = some v1
  c2 : w.cell? ⟨b, 2, none⟩ = some v2
  c3 : w.cell? ⟨b, 3, none⟩ = some v3
  c4 : w.cell? ⟨b, 4, none⟩ = some v4
  c5 : w.cell? ⟨b, 5, none⟩ = some v5
  fr : ∀ o, w.frozen? ⟨b, o, none⟩ = false
  lt : b < w.heap.size
section
variable {w w' : World} {b : Nat} {v0 v1 v2 v3 v4 v5 : Value}
theorem S6.keep (k : S6 w b v0 v1 v2 v3 v4 v5) (hb : Below w.heap.size w w') : S6 w' b v0 v1 v2 v3 v4 v5 :=
  ⟨by rw [hb.cell (p := ⟨b, 0, none⟩) k.lt]; exact k.c0, by rw [hb.cell (p := ⟨b, 1, none⟩) k.lt]; exact k.c1, by rw [hb.cell (p := ⟨b, 2, none⟩) k.lt]; exact k.c2, by rw [hb.cell (p := ⟨b, 3, none⟩) k.lt]; exact k.c3, by rw [hb.cell (p := ⟨b, 4, none⟩) k.lt]; exact k.c4, by rw [hb.cell (p := ⟨b, 5, none⟩) k.lt]; exact k.c5, fun o => by rw [hb.frozen (p := ⟨b, o, none⟩) k.lt]; exact k.fr o, Nat.lt_of_lt_of_le k.lt hb.size⟩
theorem S6.low (k : S6 w b v0 v1 v2 v3 v4 v5) {B : Nat} (hb : Below B w w') (h : b < B) : S6 w' b v0 v1 v2 v3 v4 v5 :=
  ⟨by rw [hb.cell (p := ⟨b, 0, none⟩) h]; exact k.c0, by rw [hb.cell (p := ⟨b, 1, none⟩) h]; exact k.c1, by rw [hb.cell (p := ⟨b, 2, none⟩) h]; exact k.c2, by rw [hb.cell (p := ⟨b, 3, none⟩) h]; exact k.c3, by rw [hb.cell (p := ⟨b, 4, none⟩) h]; exact k.c4, by rw [hb.cell (p := ⟨b, 5, none⟩) h]; exact k.c5, fun o => by rw [hb.frozen (p := ⟨b, o, none⟩) h]; exact k.fr o, Nat.lt_of_lt_of_le k.lt hb.size⟩
theorem S6.new (w : World) (v0 v1 v2 v3 v4 v5 : Value) (t : TypeId) : S6 (w.alloc (.cells #[v0, v1, v2, v3, v4, v5] t)) w.heap.size v0 v1 v2 v3 v4 v5 := ⟨by simp, by simp, by simp, by simp, by simp, by simp, fun o => by simp, by simp⟩
theorem S6.off (k : S6 w b v0 v1 v2 v3 v4 v5) {B i : Nat} {x : Value} (h : B ≠ b) : S6 (w.setCell ⟨B, i, none⟩ x) b v0 v1 v2 v3 v4 v5 := by
  have ne : ∀ o : Nat, (⟨B, i, none⟩ : Addr) ≠ ⟨b, o, none⟩ := fun o q => h (congrArg Addr.block q)
  exact ⟨by rw [World.cell?_setCell_other _ _ _ _ (ne _)]; exact k.c0, by rw [World.cell?_setCell_other _ _ _ _ (ne _)]; exact k.c1, by rw [World.cell?_setCell_other _ _ _ _ (ne _)]; exact k.c2, by rw [World.cell?_setCell_other _ _ _ _ (ne _)]; exact k.c3, by rw [World.cell?_setCell_other _ _ _ _ (ne _)]; exact k.c4, by rw [World.cell?_setCell_other _ _ _ _ (ne _)]; exact k.c5, fun o => by rw [World.frozen?_setCell]; exact k.fr o, by simpa using k.lt⟩
theorem S6.above {hi : Nat} (k : S6 w b v0 v1 v2 v3 v4 v5) (h : Above hi w w') (hb : hi ≤ b) : S6 w' b v0 v1 v2 v3 v4 v5 :=
  ⟨by rw [h.cell b 0 hb k.lt]; exact k.c0, by rw [h.cell b 1 hb k.lt]; exact k.c1, by rw [h.cell b 2 hb k.lt]; exact k.c2, by rw [h.cell b 3 hb k.lt]; exact k.c3, by rw [h.cell b 4 hb k.lt]; exact k.c4, by rw [h.cell b 5 hb k.lt]; exact k.c5, fun o => by rw [h.frozen b o hb k.lt]; exact k.fr o, Nat.lt_of_lt_of_le k.lt h.size⟩
end
end Go.Proofs.YtmidfgjnaebfiaaGreatDoor
/-
  Answers that bear a store and texts: where they lie.
-/
namespace Go.Proofs.YtmidfgjnaebfiaaGreatDoor
open Go.ChangeShapes Go.WideShapes Go.ChangeAt Go.RowKit Go.Sort
structure QR where
  s : SR
  a3 : Option Addr
  k3 : Nat
  n3 : Nat
def QR.v (r : QR) : Value := .slice r.a3 r.n3 r.k3
def QIn (W : World) (r : QR) (L1 L2 : List Ent) (G : List ByteArray) : Prop := RIn W r.s L1 L2 ∧ TLV W r.v G
def QSto (W : World) (base hi : Nat) (r : QR) (L1 L2 : List Ent) (G : List ByteArray) : Prop := ∃ m1 m2, m1.map Prod.fst = L1 ∧ m2.map Prod.fst = L2 ∧ StoLV W base r.s.t r.s.k m1 m2 ∧ (∀ b ∈ fp r.s.t m1 ++ fp r.s.k m2, b < hi) ∧ TLV W r.v G ∧ (∀ b, r.v.ownBlock = some b → base ≤ b ∧ b < hi ∧ b ∉ fp r.s.t m1 ∧ b ∉ fp r.s.k m2)
def QHeld (W : World) (r : QR) (L1 L2 : List Ent) (G : List ByteArray) : Prop := RHeld W r.s L1 L2 ∧ TLV W r.v (mkTL (nStoE L1 L2) G.length)
theorem QIn.keep {W W' : World} {r : QR} {L1 L2 : List Ent} {G : List ByteArray} (h : QIn W r L1 L2 G) (hb : Below W.heap.size W W') : QIn W' r L1 L2 G := ⟨h.1.keep hb, h.2.below hb⟩
theorem QSto.below {W W' : World} {base hi : Nat} {r : QR} {L1 L2 : List Ent} {G : List ByteArray} (h : QSto W base hi r L1 L2 G) (hb : Below W.heap.size W W') : QSto W' base hi r L1 L2 G := by
  obtain ⟨m1, m2, e1, e2, h1, h2, h3, h4⟩ := h
  exact ⟨m1, m2, e1, e2, h1.below hb, h2, h3.below hb, h4⟩
theorem QSto.above {W W' : World} {h0 base hi : Nat} {r : QR} {L1 L2 : List Ent} {G : List ByteArray} (h : QSto W base hi r L1 L2 G) (ha : Above h0 W W') (hb : h0 ≤ base) : QSto W' base hi r L1 L2 G := by
  obtain ⟨m1, m2, e1, e2, h1, h2, h3, h4⟩ := h
  exact ⟨m1, m2, e1, e2, h1.above ha hb, h2, h3.out (.of_above ha) (fun b e => by have := (h4 b e).1; simp; omega), h4⟩
theorem QHeld.below {W W' : World} {r : QR} {L1 L2 : List Ent} {G : List ByteArray} (h : QHeld W r L1 L2 G) (hb : Below W.heap.size W W') : QHeld W' r L1 L2 G := ⟨h.1.below hb, h.2.below hb⟩
theorem QSto.in {W : World} {base hi : Nat} {r : QR} {L1 L2 : List Ent} {G : List ByteArray} (h : QSto W base hi r L1 L2 G) : QIn W r L1 L2 G := by
  obtain ⟨m1, m2, e1, e2, h1, h2, h3, h4⟩ := h
  exact ⟨RSto.in (base := base) (hi := hi) ⟨m1, m2, e1, e2, h1, h2⟩, h3⟩
theorem QSto.mk {W : World} {base : Nat} {r : QR} {L1 L2 : List Ent} {G : List ByteArray} {m1 m2 : List (Ent × EntR)} (e1 : m1.map Prod.fst = L1) (e2 : m2.map Prod.fst = L2) (h : StoLV W base r.s.t r.s.k m1 m2) (ht : TLV W r.v G) (hn : ∀ b, r.v.ownBlock = some b → base ≤ b ∧ b ∉ fp r.s.t m1 ∧ b ∉ fp r.s.k m2) : QSto W base W.heap.size r L1 L2 G :=
  ⟨m1, m2, e1, e2, h, fun b hb => by
    rcases List.mem_append.1 hb with hb | hb
    · exact h.t.lt hb
    · exact h.k.lt hb, ht, fun b e => ⟨(hn b e).1, ht.block_lt b e, (hn b e).2.1, (hn b e).2.2⟩⟩
def nPurE (L1 L2 : List Ent) (G : List ByteArray) : Nat := nStoE L1 L2 + G.length
/-- A store and texts that are handed back, with their code. -/
structure QAns where
  c : Int
  bu : Int
  gu : Int
  t : List Ent
  k : List Ent
  g : List ByteArray
def PurAns (A : QAns) (base : Nat) (e : Ending) (w' : World) : Prop := ∃ r : QR, e = .returned (.agg #[.int .i64 A.c, .int .i64 A.bu, .int .i64 A.gu, .slice r.s.a1 r.s.n1 r.s.k1, .slice r.s.a2 r.s.n2 r.s.k2, .slice r.a3 r.n3 r.k3]) ∧ QSto w' base w'.heap.size r A.t A.k A.g
def badQ (c : Int) : QAns := ⟨c, 0, 0, [], [], []⟩
theorem PurAns.of {A B : QAns} {base : Nat} {e : Ending} {w' : World} (h : PurAns B base e w') (he : A = B) : PurAns A base e w' := he ▸ h
theorem PurAns.got {c bu gu : Int} {t k : List Ent} {G : List ByteArray} {base b : Nat} {a1 a2 a3 : Option Addr} {n1 k1 n2 k2 n3 k3 : Nat} {w' : World} {m1 m2 : List (Ent × EntR)} (h : StoLV w' b (.slice a1 n1 k1) (.slice a2 n2 k2) m1 m2) (hb : base ≤ b) (e1 : m1.map Prod.fst = t) (e2 : m2.map Prod.fst = k) (ht : TLV w' (.slice a3 n3 k3) G) (hn : ∀ q, (Value.slice a3 n3 k3).ownBlock = some q → base ≤ q ∧ q ∉ fp (.slice a1 n1 k1) m1 ∧ q ∉ fp (.slice a2 n2 k2) m2) : PurAns ⟨c, bu, gu, t, k, G⟩ base (.returned (.agg #[.int .i64 c, .int .i64 bu, .int .i64 gu, .slice a1 n1 k1, .slice a2 n2 k2, .slice a3 n3 k3])) w' :=
  ⟨⟨⟨a1, k1, n1, a2, k2, n2⟩, a3, k3, n3⟩, rfl, QSto.mk (r := ⟨⟨a1, k1, n1, a2, k2, n2⟩, a3, k3, n3⟩) e1 e2 (h.lower hb) ht hn⟩
theorem PurAns.bad (c : Int) (base : Nat) (w' : World) : PurAns (badQ c) base (.returned (.agg #[.int .i64 c, .int .i64 0, .int .i64 0, .slice none 0 0, .slice none 0 0, .slice none 0 0])) w' := PurAns.got (StoLV.none w' base) (Nat.le_refl _) rfl rfl (.inl ⟨rfl, rfl⟩) (fun q e => by cases e)
end Go.Proofs.YtmidfgjnaebfiaaGreatDoor
/-
  Purges, by the model: entries turned, entries taken out.
-/
namespace Go.Proofs.YtmidfgjnaebfiaaGreatDoor
open Go.ChangeShapes Go.WideShapes Go.ChangeAt Go.RowKit Go.Sort
def softE (x : Ent) : Ent := { x with b1 := true }
def inK (ks : List ByteArray) (x : Ent) : Bool := tagB ks x.key
set_option maxRecDepth 100000 in
set_option maxHeartbeats 8000000 in
theorem l9Soft_o (w : World) (base G cap : Nat) (a : Option Addr) (kc : Nat) (ks : List ByteArray) (m : List (Ent × EntR)) (hm : m.length ≤ 1000) (hks : ks.length ≤ 1000) (h : EntsLV w base (.slice (some ⟨G, 0, none⟩) m.length cap) m) (hbs : base ≤ w.heap.size) (hk : ∀ X, Below base w X → TIn X a ks) :
    Calls Tryz.prog 193 #[.slice (some ⟨G, 0, none⟩) m.length cap, .slice a ks.length kc] w fun e w' => e = .returned (.tuple #[]) ∧ EntsLV w' base (.slice (some ⟨G, 0, none⟩) m.length cap) (turnM (inK ks) softE m) ∧ Out [G] w w' ∧ Below base w w' := by
  have HK : Hid (∀ X, Below base w X → TIn X a ks) := hk
  have HBS : Hid (base ≤ w.heap.size) := hbs
  obtain ⟨n, hn0⟩ : ∃ n, m.length = n := ⟨_, rfl⟩
  rw [hn0] at hm h ⊢
  have HN : Hid (m.length = n) := hn0
  have HST : Hid (EntsLV w base (.slice (some ⟨G, 0, none⟩) n cap) m) := h
  obtain ⟨kn, hkn⟩ : ∃ n, ks.length = n := ⟨_, rfl⟩
  have HKN : Hid (ks.length = kn) := hkn
  rw [hkn] at hks ⊢
  clear hn0 h hk hbs hkn
  go_enter Tryz.func193, Tryz.ntmps193
  go_wp2_with fail
  go_loopw [4] (fun i wr => ∃ A B : List (Ent × EntR), m = A ++ B ∧ i = .int .i64 (A.length : Int) ∧ EntsLV wr base (.slice (some ⟨G, 0, none⟩) n cap) (turnM (inK ks) softE A ++ B) ∧ Out [G] w wr ∧ Below base w wr) (fun i _ => n - (intOf i).toNat)
  case atStart => exact ⟨[], m, rfl, rfl, HST.out, Out.refl _ _, Below.refl _ _⟩
  case round =>
    obtain ⟨A, B, hAB, rfl, ho, hout, hb⟩ := hrel
    clear HST
    obtain ⟨k, hk⟩ : ∃ k, A.length = k := ⟨_, rfl⟩
    have hlen : n = k + B.length := by have := HN.out; rw [hAB, List.length_append] at this; omega
    rw [hk]
    cases B with
    | cons q B =>
      obtain ⟨x, r⟩ := q
      simp only [List.length_cons] at hlen
      have hkn : k < n := by omega
      clear hlen
      have hkA : (turnM (inK ks) softE A).length = k := by rw [turnM_len, hk]
      have cells := ho.at.2.2.2.2.1 k (x, r) (by rw [← hkA]; exact mid_eq _ _ _)
      have c0 : wr.cell? ⟨G, k * 13, none⟩ = some (.string x.key) := cells 0 (by omega)
      have c9 : wr.cell? ⟨G, k * 13 + 9, none⟩ = some (.bool x.b1) := cells 9 (by omega)
      have fz := ho.at.2.2.2.2.2 (k * 13 + 9)
      have CT : Hid (Calls Tryz.prog 163 #[.slice a kn kc, .string x.key] wr fun e w' => e = .returned (.bool (inK ks x)) ∧ w' = wr) := by
        have := specTagged_any wr a kc ks x.key (by have := HKN.out; omega) (HK.out wr hb)
        rw [HKN.out] at this
        exact this
      have gk : (k : Int) < n := by omega
      have gk0 : (0 : Int) ≤ k := by omega
      have HQ : Hid (m = A ++ (x, r) :: B ∧ A.length = k ∧ EntsLV wr base (.slice (some ⟨G, 0, none⟩) n cap) (turnM (inK ks) softE A ++ (x, r) :: B) ∧ Out [G] w wr ∧ Below base w wr ∧ base ≤ G) := ⟨hAB, hk, ho, hout, hb, ho.at.2.2.1⟩
      clear hAB hk ho hout hb cells hkA
      have tapp : turnM (inK ks) softE (A ++ [(x, r)]) = turnM (inK ks) softE A ++ [(if inK ks x then softE x else x, r)] := by unfold turnM; rw [List.map_append]; rfl
      cases he : inK ks x
      · rw [he] at CT tapp
        have HA : Hid (m = (A ++ [(x, r)]) ++ B ∧ (A ++ [(x, r)]).length = k + 1 ∧ EntsLV wr base (.slice (some ⟨G, 0, none⟩) n cap) (turnM (inK ks) softE (A ++ [(x, r)]) ++ B) ∧ Out [G] w wr ∧ Below base w wr) := by
          obtain ⟨h1, h2, h3, h4, h5, _⟩ := HQ.out
          refine ⟨by rw [h1]; simp, by simp [h2], ?_, h4, h5⟩
          rw [tapp]
          simpa using h3
        clear HQ he tapp c9 fz
        generalize x.key = xk at *
        go_wp2_with fail
        refine CT.out.mono ?_
        rintro e w2 ⟨rfl, rfl⟩
        clear CT
        go_wp2_with fail
        go_roundw
        case rel => exact ⟨A ++ [(x, r)], B, HA.out.1, by rw [HA.out.2.1]; go_num, HA.out.2.2.1, HA.out.2.2.2.1, HA.out.2.2.2.2⟩
        case measure => simp [intOf]; omega
      · rw [he] at CT tapp
        have HA : Hid (m = (A ++ [(x, r)]) ++ B ∧ (A ++ [(x, r)]).length = k + 1 ∧ EntsLV (wr.setCell ⟨G, k * 13 + 9, none⟩ (.bool true)) base (.slice (some ⟨G, 0, none⟩) n cap) (turnM (inK ks) softE (A ++ [(x, r)]) ++ B) ∧ Out [G] w (wr.setCell ⟨G, k * 13 + 9, none⟩ (.bool true)) ∧ Below base w (wr.setCell ⟨G, k * 13 + 9, none⟩ (.bool true))) := by
          obtain ⟨h1, h2, h3, h4, h5, h6⟩ := HQ.out
          refine ⟨by rw [h1]; simp, by simp [h2], ?_, h4.trans (Out.set _ _ _ _), h5.setCell h6 _⟩
          rw [tapp]
          have := h3.set (k := k) (by rw [turnM_len, h2]) 9 (by omega) (.bool true) (softE x) rfl rfl rfl rfl
          simpa using this
        clear HQ he tapp
        generalize x.key = xk at *
        go_wp2_with fail
        refine CT.out.mono ?_
        rintro e w2 ⟨rfl, rfl⟩
        clear CT
        go_wp2_with fail
        go_roundw
        case rel => exact ⟨A ++ [(x, r)], B, HA.out.1, by rw [HA.out.2.1]; go_num, HA.out.2.2.1, HA.out.2.2.2.1, HA.out.2.2.2.2⟩
        case measure => simp [intOf]; omega
    | nil =>
      simp only [List.length_nil] at hlen
      have e : k = n := by omega
      clear hlen
      subst e
      simp only [List.append_nil] at hAB ho
      subst hAB
      have HE : Hid (EntsLV wr base (.slice (some ⟨G, 0, none⟩) k cap) (turnM (inK ks) softE m) ∧ Out [G] w wr ∧ Below base w wr) := ⟨ho, hout, hb⟩
      clear ho hout hb hk HN HK
      go_wp2_with fail
      exact bodyPost_end (v := .tuple #[]) (by simp [results, Tryz.results193, go_sem]) rfl ⟨rfl, HE.out⟩
set_option maxHeartbeats 1000000 in
theorem l9Soft_nil (w : World) (a b : Option Addr) (c d n : Nat) : Calls Tryz.prog 193 #[.slice a 0 c, .slice b n d] w fun e w' => e = .returned (.tuple #[]) ∧ Below w.heap.size w w' := by
  go_enter Tryz.func193, Tryz.ntmps193
  go_wp2_with fail
  go_loop [4] (fun i => i = .int .i64 0) (fun _ => 0)
  case atStart => exact rfl
  case round =>
    obtain rfl := hrel
    go_wp2_with fail
    exact bodyPost_end (v := .tuple #[]) (by simp [results, Tryz.results193, go_sem]) rfl ⟨rfl, Below.refl _ _⟩
theorem fp_turnM (v : Value) (p : Ent → Bool) (f : Ent → Ent) (m : List (Ent × EntR)) : fp v (turnM p f m) = fp v m := by unfold fp; rw [foot_turnM]
theorem l9Soft_v (w : World) (base n c : Nat) (v a : Option Addr) (kc : Nat) (ks : List ByteArray) (m : List (Ent × EntR)) (hm : m.length ≤ 1000) (hks : ks.length ≤ 1000) (h : EntsLV w base (.slice v n c) m) (hbs : base ≤ w.heap.size) (hk : ∀ X, Below base w X → TIn X a ks) :
    Calls Tryz.prog 193 #[.slice v n c, .slice a ks.length kc] w fun e w' => e = .returned (.tuple #[]) ∧ EntsLV w' base (.slice v n c) (turnM (inK ks) softE m) ∧ Out (fp (.slice v n c) m) w w' ∧ Below base w w' := by
  rcases h.form with ⟨e, rfl⟩ | ⟨g, c', e, _⟩
  · simp only [Value.slice.injEq] at e
    obtain ⟨rfl, rfl, rfl⟩ := e
    exact (l9Soft_nil w none a 0 kc _).mono fun _ _ ⟨h1, h2⟩ => ⟨h1, h.below h2, .below h2, h2.mono hbs⟩
  · simp only [Value.slice.injEq] at e
    obtain ⟨rfl, rfl, rfl⟩ := e
    refine (l9Soft_o w base g c a kc ks m hm hks h hbs hk).mono ?_
    rintro e w' ⟨h1, h2, h3, h4⟩
    exact ⟨h1, h2, h3.mono (fun b hb => by simp at hb; subst hb; simp [fp, Value.ownBlock]), h4⟩
/-! ### keys taken out one behind the other -/
def offKs (ks : List ByteArray) (m : List (Ent × EntR)) : List (Ent × EntR) := m.filter fun q => !inK ks q.1
theorem isKey_iff {key : ByteArray} {x : Ent} : isKey key x = decide (key = x.key) := by
  unfold isKey
  by_cases h : key = x.key
  · subst h; simp
  · rw [decide_eq_false h, beq_eq_false_iff_ne]
    intro e
    rw [ByteArray.toList_eq, ByteArray.toList_eq] at e
    exact h (ByteArray.ext (Array.ext' e)).symm
theorem offKs_next {ks : List ByteArray} {j : Nat} {key : ByteArray} {m : List (Ent × EntR)} (h : ks[j]? = some key) : offKey key (offKs (ks.take j) m) = offKs (ks.take (j + 1)) m := by
  unfold offKey offKs
  rw [List.filter_filter, take_next h]
  congr 1
  funext q
  unfold inK tagB
  rw [List.any_append, isKey_iff]
  simp [Bool.and_comm]
theorem offKs_nil (m : List (Ent × EntR)) : offKs [] m = m := by unfold offKs; exact List.filter_eq_self.2 fun q _ => by simp [inK, tagB]
theorem offKs_map (ks : List ByteArray) (m : List (Ent × EntR)) : (offKs ks m).map Prod.fst = (m.map Prod.fst).filter fun x => !inK ks x := by
  unfold offKs
  rw [List.filter_map]
  rfl
theorem foot_offKs {ks : List ByteArray} {l : List (Ent × EntR)} {b : Nat} (h : b ∈ foot (offKs ks l)) : b ∈ foot l := (foot_sub List.filter_sublist).subset h
set_option maxRecDepth 100000 in
set_option maxHeartbeats 8000000 in
theorem l9Hard_at (w : World) (B base : Nat) (bu gu : Int) (v1 v2 : Value) (l1 l2 : List (Ent × EntR)) (a : Option Addr) (kc : Nat) (ks : List ByteArray) (hks : ks.length ≤ 1000) (hs : S4 w B (.int .i64 bu) (.int .i64 gu) v1 v2) (h : StoO w base v1 v2 l1 l2) (hbase : base ≤ w.heap.size) (hbB : base ≤ B) (hB1 : B ∉ v1.ownBlock.toList ++ foot l1) (hB2 : B ∉ v2.ownBlock.toList ++ foot l2) (n1 : l1.length ≤ 1048576) (n2 : l2.length ≤ 1048576) (hk : ∀ X, Below base w X → TIn X a ks) :
    Calls Tryz.prog 159 #[.pointer (some ⟨B, 0, none⟩), .slice a ks.length kc, .bool true] w fun e w' => e = .returned (.tuple #[]) ∧ (∃ a1 k1 n1 a2 k2 n2, S4 w' B (.int .i64 bu) (.int .i64 gu) (.slice a1 n1 k1) (.slice a2 n2 k2) ∧ StoLV w' base (.slice a1 n1 k1) (.slice a2 n2 k2) (offKs ks l1) (offKs ks l2)) ∧ Below base w w' := by
  have HK : Hid (∀ X, Below base w X → TIn X a ks) := hk
  have HBS : Hid (base ≤ w.heap.size ∧ base ≤ B) := ⟨hbase, hbB⟩
  have HL : Hid (l1.length ≤ 1048576 ∧ l2.length ≤ 1048576) := ⟨n1, n2⟩
  have HST : Hid (∃ u1 u2, S4 w B (.int .i64 bu) (.int .i64 gu) u1 u2 ∧ StoO w base u1 u2 (offKs (ks.take 0) l1) (offKs (ks.take 0) l2) ∧ B ∉ u1.ownBlock.toList ++ foot (offKs (ks.take 0) l1) ∧ B ∉ u2.ownBlock.toList ++ foot (offKs (ks.take 0) l2)) := by
    refine ⟨v1, v2, hs, ?_⟩
    rw [List.take_zero, offKs_nil, offKs_nil]
    exact ⟨h, hB1, hB2⟩
  clear hk hs h hbase hbB hB1 hB2 n1 n2
  obtain ⟨kn, hkn⟩ : ∃ n, ks.length = n := ⟨_, rfl⟩
  have HKN : Hid (ks.length = kn) := hkn
  rw [hkn] at hks ⊢
  clear hkn
  go_enter Tryz.func159, Tryz.ntmps159
  go_wp2_with fail
  go_loopw [6] (fun i wr => ∃ j : Nat, j ≤ kn ∧ i = .int .i64 (j : Int) ∧ (∃ u1 u2, S4 wr B (.int .i64 bu) (.int .i64 gu) u1 u2 ∧ StoO wr base u1 u2 (offKs (ks.take j) l1) (offKs (ks.take j) l2) ∧ B ∉ u1.ownBlock.toList ++ foot (offKs (ks.take j) l1) ∧ B ∉ u2.ownBlock.toList ++ foot (offKs (ks.take j) l2)) ∧ Below base w wr) (fun i _ => kn - (intOf i).toNat)
  case atStart => exact ⟨0, Nat.zero_le _, rfl, HST.out, Below.refl _ _⟩
  case round =>
    obtain ⟨j, hj, rfl, ⟨u1, u2, s, o, b1, b2⟩, hb⟩ := hrel
    clear HST
    by_cases hlt : j < kn
    · obtain ⟨key, hkey⟩ : ∃ r, ks[j]? = some r := ⟨ks[j]'(by have := HKN.out; omega), List.getElem?_eq_getElem _⟩
      have CD := l8Drop_at wr B base bu gu u1 u2 _ _ key s o (by have := HBS.out.1; have := hb.size; omega) b1 b2 (Nat.le_trans (List.length_filter_le _ _) HL.out.1) (Nat.le_trans (List.length_filter_le _ _) HL.out.2)
      rw [offKs_next hkey, offKs_next hkey] at CD
      rcases HK.out wr hb with e | ⟨g, off, rfl, hat⟩
      · rw [e] at hkey; simp at hkey
      have p := hat j key hkey
      have gj : (j : Int) < kn := by omega
      have gj0 : (0 : Int) ≤ j := by omega
      have HB : Hid (Below base w wr) := hb
      clear s o b1 b2 hkey hat hb
      go_wp2_with fail
      refine CD.mono ?_
      rintro e w2 ⟨rfl, hnx, hb2⟩
      have HX : Hid _ := hnx
      have HB2 : Hid (Below base w w2) := HB.out.trans (hb2.mono HBS.out.2)
      clear CD hnx hb2 HB p
      go_wp2_with fail
      go_roundw
      case rel => exact ⟨j + 1, by omega, by go_num, HX.out, HB2.out⟩
      case measure => simp [intOf]; omega
    · have e : j = kn := by omega
      subst e
      rw [List.take_of_length_le (by have := HKN.out; omega)] at o b1 b2
      have HE : Hid ((∃ a1 k1 n1 a2 k2 n2, S4 wr B (.int .i64 bu) (.int .i64 gu) (.slice a1 n1 k1) (.slice a2 n2 k2) ∧ StoLV wr base (.slice a1 n1 k1) (.slice a2 n2 k2) (offKs ks l1) (offKs ks l2)) ∧ Below base w wr) := by
        obtain ⟨a1, k1, rfl, _⟩ := row_form o.t.own
        obtain ⟨a2, k2, rfl, _⟩ := row_form o.k.own
        exact ⟨⟨a1, k1, _, a2, k2, _, s, o.lv⟩, hb⟩
      clear s o b1 b2 hb HK
      go_wp2_with fail
      exact bodyPost_end (v := .tuple #[]) (by simp [results, Tryz.results159, go_sem]) rfl ⟨rfl, HE.out⟩
set_option maxRecDepth 100000 in
set_option maxHeartbeats 8000000 in
theorem l9SoftS_at (w : World) (B base : Nat) (bu gu : Int) (a1 a2 : Option Addr) (n1 k1 n2 k2 : Nat) (l1 l2 : List (Ent × EntR)) (a : Option Addr) (kc : Nat) (ks : List ByteArray) (hks : ks.length ≤ 1000) (hs : S4 w B (.int .i64 bu) (.int .i64 gu) (.slice a1 n1 k1) (.slice a2 n2 k2)) (h : StoLV w base (.slice a1 n1 k1) (.slice a2 n2 k2) l1 l2) (hbase : base ≤ w.heap.size) (hB1 : B ∉ fp (.slice a1 n1 k1) l1) (hB2 : B ∉ fp (.slice a2 n2 k2) l2) (z1 : l1.length ≤ 1000) (z2 : l2.length ≤ 1000) (hk : ∀ X, Below base w X → TIn X a ks) :
    Calls Tryz.prog 159 #[.pointer (some ⟨B, 0, none⟩), .slice a ks.length kc, .bool false] w fun e w' => e = .returned (.tuple #[]) ∧ (S4 w' B (.int .i64 bu) (.int .i64 gu) (.slice a1 n1 k1) (.slice a2 n2 k2) ∧ StoLV w' base (.slice a1 n1 k1) (.slice a2 n2 k2) (turnM (inK ks) softE l1) (turnM (inK ks) softE l2)) ∧ Below base w w' := by
  have so : ∀ {X X' : World} {F : List Nat}, S4 X B (.int .i64 bu) (.int .i64 gu) (.slice a1 n1 k1) (.slice a2 n2 k2) → Out F X X' → B ∉ F → S4 X' B (.int .i64 bu) (.int .i64 gu) (.slice a1 n1 k1) (.slice a2 n2 k2) := fun s o hn => ⟨by rw [o.cell B 0 s.lt hn]; exact s.c0, by rw [o.cell B 1 s.lt hn]; exact s.c1, by rw [o.cell B 2 s.lt hn]; exact s.c2, by rw [o.cell B 3 s.lt hn]; exact s.c3, fun q => by rw [o.frozen B q s.lt hn]; exact s.fr q, Nat.lt_of_lt_of_le s.lt o.size⟩
  have C1 : Hid (Calls Tryz.prog 193 #[.slice a1 n1 k1, .slice a ks.length kc] w fun e w' => e = .returned (.tuple #[]) ∧ S4 w' B (.int .i64 bu) (.int .i64 gu) (.slice a1 n1 k1) (.slice a2 n2 k2) ∧ StoLV w' base (.slice a1 n1 k1) (.slice a2 n2 k2) (turnM (inK ks) softE l1) l2 ∧ Below base w w') := by
    refine (l9Soft_v w base n1 k1 a1 a kc ks l1 z1 hks h.t hbase hk).mono ?_
    rintro e w' ⟨h1, h2, h3, h4⟩
    exact ⟨h1, so hs h3 hB1, ⟨h2, h.k.out h3 (fun b hb e => h.nd b e hb), by rw [fp_turnM]; exact h.nd⟩, h4⟩
  have C2 : Hid (∀ X, S4 X B (.int .i64 bu) (.int .i64 gu) (.slice a1 n1 k1) (.slice a2 n2 k2) → StoLV X base (.slice a1 n1 k1) (.slice a2 n2 k2) (turnM (inK ks) softE l1) l2 → Below base w X → Calls Tryz.prog 193 #[.slice a2 n2 k2, .slice a ks.length kc] X fun e w' => e = .returned (.tuple #[]) ∧ (S4 w' B (.int .i64 bu) (.int .i64 gu) (.slice a1 n1 k1) (.slice a2 n2 k2) ∧ StoLV w' base (.slice a1 n1 k1) (.slice a2 n2 k2) (turnM (inK ks) softE l1) (turnM (inK ks) softE l2)) ∧ Below base w w') := fun X s o hb => by
    refine (l9Soft_v X base n2 k2 a2 a kc ks l2 z2 hks o.k (by have := hb.size; omega) (fun Y hY => hk Y (hb.trans hY))).mono ?_
    rintro e w' ⟨h1, h2, h3, h4⟩
    exact ⟨h1, ⟨so s h3 hB2, ⟨o.t.out h3 (fun b hb e => o.nd b hb e), h2, fun b h5 => by rw [fp_turnM]; exact o.nd b h5⟩⟩, hb.trans h4⟩
  have e2 := hs.c2
  clear hs h hbase hB1 hB2 z1 z2 hk so
  generalize ks.length = kn at *
  go_enter Tryz.func159, Tryz.ntmps159
  go_wp2_with fail
  refine C1.out.mono ?_
  rintro e w1 ⟨rfl, s1, o1, hb1⟩
  have CC := C2.out w1 s1 o1 hb1
  have e3 := s1.c3
  clear C1 C2 s1 o1 hb1 e2
  go_wp2_with fail
  refine CC.mono ?_
  rintro e w2 ⟨rfl, hnx⟩
  have HX : Hid _ := hnx
  clear CC hnx e3
  go_wp2_with fail
  exact bodyPost_ret (v := .tuple #[]) (results_none rfl _ _ _) rfl ⟨rfl, HX.out⟩
end Go.Proofs.YtmidfgjnaebfiaaGreatDoor
/-
  A store whose meant entries are soft, by the program.
-/
namespace Go.Proofs.YtmidfgjnaebfiaaGreatDoor
open Go.ChangeShapes Go.WideShapes Go.ChangeAt Go.RowKit Go.Sort
/-- The first k entries are turned. -/
def turnP (p : Ent → Bool) (f : Ent → Ent) (k : Nat) (m : List (Ent × EntR)) : List (Ent × EntR) := turnM p f (m.take k) ++ m.drop k
theorem turnP_zero (p : Ent → Bool) (f : Ent → Ent) (m : List (Ent × EntR)) : turnP p f 0 m = m := by simp [turnP, turnM]
theorem turnP_all {p : Ent → Bool} {f : Ent → Ent} {k : Nat} {m : List (Ent × EntR)} (h : m.length ≤ k) : turnP p f k m = turnM p f m := by unfold turnP; rw [List.take_of_length_le h, List.drop_of_length_le h, List.append_nil]
theorem turnP_at {p : Ent → Bool} {f : Ent → Ent} {k : Nat} {m : List (Ent × EntR)} {q : Ent × EntR} (h : m[k]? = some q) : turnP p f k m = turnM p f (m.take k) ++ (q.1, q.2) :: m.drop (k + 1) ∧ (turnM p f (m.take k)).length = k ∧ turnP p f (k + 1) m = turnM p f (m.take k) ++ (if p q.1 then f q.1 else q.1, q.2) :: m.drop (k + 1) := by
  obtain ⟨hk, e⟩ := List.getElem?_eq_some_iff.1 h
  refine ⟨?_, by rw [turnM_len, List.length_take]; omega, ?_⟩
  · unfold turnP; rw [List.drop_eq_getElem_cons hk, e]
  · unfold turnP
    rw [take_next h]
    unfold turnM
    rw [List.map_append]
    simp
theorem fp_turnP (v : Value) (p : Ent → Bool) (f : Ent → Ent) (k : Nat) (m : List (Ent × EntR)) : fp v (turnP p f k m) = fp v m := by
  unfold fp turnP
  rw [foot_app, foot_turnM, ← foot_app, List.take_append_drop]
theorem mid_at {α : Type} {A B : List α} {y : α} {k : Nat} (h : A.length = k) : (A ++ y :: B)[k]? = some y := by subst h; exact mid_eq _ _ _
/-- One step: the k-th of all entries is turned, if it is meant. -/
theorem soft_step {X : World} {base n1 k1 n2 k2 : Nat} {a1 a2 : Option Addr} {m1 m2 : List (Ent × EntR)} {p : Ent → Bool} {k : Nat} {h : Hdl} (hs : StoLV X base (.slice a1 n1 k1) (.slice a2 n2 k2) (turnP p softE k m1) (turnP p softE (k - m1.length) m2)) (hh : (hdl2 a1 a2 m1 m2)[k]? = some h) :
    HThere X h ∧ X.cell? ⟨h.b, h.o + 9, none⟩ = some (.bool h.x.b1) ∧ X.frozen? ⟨h.b, h.o + 9, none⟩ = false ∧ base ≤ h.b ∧ (h.b ∈ fp (.slice a1 n1 k1) m1 ∨ h.b ∈ fp (.slice a2 n2 k2) m2) ∧ (p h.x = false → StoLV X base (.slice a1 n1 k1) (.slice a2 n2 k2) (turnP p softE (k + 1) m1) (turnP p softE (k + 1 - m1.length) m2)) ∧ (p h.x = true → StoLV (X.setCell ⟨h.b, h.o + 9, none⟩ (.bool true)) base (.slice a1 n1 k1) (.slice a2 n2 k2) (turnP p softE (k + 1) m1) (turnP p softE (k + 1 - m1.length) m2)) := by
  have split : (k < m1.length ∧ (hdlsA a1 m1)[k]? = some h) ∨ (m1.length ≤ k ∧ (hdlsA a2 m2)[k - m1.length]? = some h) := by
    unfold hdl2 at hh
    by_cases c : k < m1.length
    · rw [List.getElem?_append_left (by rw [hdlsA_len]; exact c)] at hh; exact .inl ⟨c, hh⟩
    · rw [List.getElem?_append_right (by rw [hdlsA_len]; omega), hdlsA_len] at hh; exact .inr ⟨by omega, hh⟩
  have loc : ∀ {a : Option Addr} {n c j : Nat} {m M : List (Ent × EntR)}, EntsLV X base (.slice a n c) M → M.length = m.length → (hdlsA a m)[j]? = some h → ∃ G, a = some ⟨G, 0, none⟩ ∧ m[j]? = some (h.x, h.r) ∧ h.b = G ∧ h.o = j * 13 := fun {a n c j m M} he hl hj => by
    rcases he.form with ⟨_, e⟩ | ⟨G, c', e, _⟩
    · have : m = [] := by rw [e] at hl; exact List.eq_nil_of_length_eq_zero (by simpa using hl.symm)
      subst this
      rw [List.getElem?_eq_none (by rw [hdlsA_len]; simp)] at hj
      cases hj
    · simp only [Value.slice.injEq] at e
      obtain ⟨rfl, _⟩ := e
      simp only [hdlsA] at hj
      unfold hdls at hj
      rw [List.getElem?_mapIdx] at hj
      obtain ⟨q, hq, rfl⟩ := Option.map_eq_some_iff.1 hj
      exact ⟨G, rfl, hq, rfl, by simp⟩
  have tlen : ∀ (k : Nat) (m : List (Ent × EntR)), (turnP p softE k m).length = m.length := fun k m => by unfold turnP; rw [List.length_append, turnM_len, ← List.length_append, List.take_append_drop]
  rcases split with ⟨hk, hj⟩ | ⟨hk, hj⟩
  · obtain ⟨G, rfl, hq, hb, ho⟩ := loc hs.t (tlen _ _) hj
    obtain ⟨t1, t2, t3⟩ := turnP_at (p := p) (f := softE) hq
    simp only at t1 t3
    have z := hs.t.at
    rw [t1] at z
    have cells := z.2.2.2.2.1 k (h.x, h.r) (mid_at t2)
    have hrow := hs.t.rows (h.x, h.r) (by rw [t1]; simp)
    rw [hb, ho]
    have e0 : k - m1.length = 0 := by omega
    have e1 : k + 1 - m1.length = 0 := by omega
    refine ⟨⟨fun j hj' => by rw [hb, ho]; exact cells j hj', hrow.in⟩, cells 9 (by omega), z.2.2.2.2.2 _, z.2.2.1, .inl (by simp [fp, Value.ownBlock]), fun hp => ?_, fun hp => ?_⟩
    · rw [t3, hp, e1]
      have := hs
      rw [t1, e0] at this
      simpa using this
    · rw [t3, hp, e1]
      have hs' := hs
      rw [t1, e0] at hs'
      exact hs'.setT t2 9 (by omega) (.bool true) (softE h.x) rfl rfl rfl rfl
  · obtain ⟨G, rfl, hq, hb, ho⟩ := loc hs.k (tlen _ _) hj
    obtain ⟨t1, t2, t3⟩ := turnP_at (p := p) (f := softE) hq
    simp only at t1 t3
    have z := hs.k.at
    rw [t1] at z
    have cells := z.2.2.2.2.1 (k - m1.length) (h.x, h.r) (mid_at t2)
    have hrow := hs.k.rows (h.x, h.r) (by rw [t1]; simp)
    rw [hb, ho]
    have e1 : k + 1 - m1.length = k - m1.length + 1 := by omega
    have e2 : turnP p softE (k + 1) m1 = turnP p softE k m1 := by rw [turnP_all (by omega), turnP_all (by omega)]
    refine ⟨⟨fun j hj' => by rw [hb, ho]; exact cells j hj', hrow.in⟩, cells 9 (by omega), z.2.2.2.2.2 _, z.2.2.1, .inr (by simp [fp, Value.ownBlock]), fun hp => ?_, fun hp => ?_⟩
    · rw [e2, e1, t3, hp]
      have := hs
      rw [t1] at this
      simpa using this
    · rw [e2, e1, t3, hp]
      have hs' := hs
      rw [t1] at hs'
      exact hs'.setK t2 9 (by omega) (.bool true) (softE h.x) rfl rfl rfl rfl
/-- Behind the first step: a store told anew, in a variable. -/
structure SfCut (W : World) (bu gu : Int) (tl kl : List Ent) (T lo : Nat) (a1 a2 : Option Addr) (k1 n1 k2 n2 : Nat) (m1 m2 : List (Ent × EntR)) (X : World) : Prop where
  b : Below W.heap.size W X
  s : S4 X T (.int .i64 bu) (.int .i64 gu) (.slice a1 n1 k1) (.slice a2 n2 k2)
  o : StoLV X lo (.slice a1 n1 k1) (.slice a2 n2 k2) m1 m2
  t1 : T ∉ fp (.slice a1 n1 k1) m1
  t2 : T ∉ fp (.slice a2 n2 k2) m2
  lo1 : W.heap.size ≤ lo
  lo2 : lo ≤ X.heap.size
  e1 : m1.map Prod.fst = tl
  e2 : m2.map Prod.fst = kl
theorem SfCut.put {W wb : World} {bu gu : Int} {tl kl : List Ent} {T lo : Nat} {a1 a2 : Option Addr} {k1 n1 k2 n2 : Nat} {m1 m2 : List (Ent × EntR)} {z0 z1 z2 z3 : Value} (b : Below W.heap.size W wb) (s : S4 wb T z0 z1 z2 z3) (o : StoLV wb lo (.slice a1 n1 k1) (.slice a2 n2 k2) m1 m2) (t1 : T ∉ fp (.slice a1 n1 k1) m1) (t2 : T ∉ fp (.slice a2 n2 k2) m2) (hT : W.heap.size ≤ T) (lo1 : W.heap.size ≤ lo) (lo2 : lo ≤ wb.heap.size) (e1 : m1.map Prod.fst = tl) (e2 : m2.map Prod.fst = kl) :
    SfCut W bu gu tl kl T lo a1 a2 k1 n1 k2 n2 m1 m2 ((((wb.setCell ⟨T, 0, none⟩ (.int .i64 bu)).setCell ⟨T, 1, none⟩ (.int .i64 gu)).setCell ⟨T, 2, none⟩ (.slice a1 n1 k1)).setCell ⟨T, 3, none⟩ (.slice a2 n2 k2)) := by
  have off : ∀ {X : World} {i : Nat} {u : Value}, StoLV X lo (.slice a1 n1 k1) (.slice a2 n2 k2) m1 m2 → StoLV (X.setCell ⟨T, i, none⟩ u) lo (.slice a1 n1 k1) (.slice a2 n2 k2) m1 m2 := fun {X i u} h => h.out (Out.set X T i u) (fun c hc e => by simp at hc; subst hc; exact t1 e) (fun c hc e => by simp at hc; subst hc; exact t2 e)
  exact ⟨(((b.setCell hT _).setCell hT _).setCell hT _).setCell hT _, (((s.set0 _).set1 _).set2 _).set3 _, off (off (off (off o))), t1, t2, lo1, by simpa using lo2, e1, e2⟩
set_option maxRecDepth 100000 in
set_option maxHeartbeats 16000000 in
theorem softened_any (w : World) (B0 g : Nat) (lb : Array Value) (p : Ent → Bool) (C : World → Prop) (bu gu : Int) (ta ka : Option Addr) (tc kc : Nat) (tl kl : List (Ent × EntR)) (hS : StoOk w ta ka tl kl) (PF : PredF B0 g lb p C) (hC : C w) (hB0 : B0 ≤ w.heap.size) :
    Calls Tryz.prog 161 #[.agg #[.int .i64 bu, .int .i64 gu, .slice ta tl.length tc, .slice ka kl.length kc], .func (.func g) #[] lb] w fun e w' => (∃ a1 k1 n1 a2 k2 n2 m1 m2, e = .returned (.agg #[.int .i64 bu, .int .i64 gu, .slice a1 n1 k1, .slice a2 n2 k2]) ∧ m1.map Prod.fst = turnE p softE (tl.map Prod.fst) ∧ m2.map Prod.fst = turnE p softE (kl.map Prod.fst) ∧ StoLV w' w.heap.size (.slice a1 n1 k1) (.slice a2 n2 k2) m1 m2) ∧ Below w.heap.size w w' := by
  have hn := hS.n
  have HTL : Hid (∀ x ∈ tl.map Prod.fst ++ kl.map Prod.fst, x.ts.length ≤ 1048576) := fun x hx => by
    rw [← hdl2_x ta ka] at hx
    obtain ⟨h, hh, rfl⟩ := List.mem_map.1 hx
    exact (entC_sizes (hS.z h hh)).2
  have HPF : Hid (PredF B0 g lb p C ∧ C w ∧ B0 ≤ w.heap.size) := ⟨PF, hC, hB0⟩
  have eg := PF.eg
  obtain ⟨W, hW⟩ : ∃ W, W = (w.alloc (.cells #[.int .i64 bu, .int .i64 gu, .slice ta tl.length tc, .slice ka kl.length kc] 38)).alloc (.cells #[.int .i64 0, .int .i64 0, .slice none 0 0, .slice none 0 0] 38) := ⟨_, rfl⟩
  have HW : Hid (W = (w.alloc (.cells #[.int .i64 bu, .int .i64 gu, .slice ta tl.length tc, .slice ka kl.length kc] 38)).alloc (.cells #[.int .i64 0, .int .i64 0, .slice none 0 0, .slice none 0 0] 38)) := hW
  have K0 : Hid (Below w.heap.size w W ∧ S4 W w.heap.size (.int .i64 bu) (.int .i64 gu) (.slice ta tl.length tc) (.slice ka kl.length kc) ∧ S4 W (w.heap.size + 1) (.int .i64 0) (.int .i64 0) (.slice none 0 0) (.slice none 0 0) ∧ W.heap.size = w.heap.size + 2) := by
    rw [hW]
    refine ⟨((Below.refl _ _).alloc (Nat.le_refl _) _).alloc (by simp) _, (S4.new w _ _ _ _ _).keep ((Below.refl _ _).alloc (Nat.le_refl _) _), ?_, by simp⟩
    have := S4.new (w.alloc (.cells #[.int .i64 bu, .int .i64 gu, .slice ta tl.length tc, .slice ka kl.length kc] 38)) (.int .i64 0) (.int .i64 0) (.slice none 0 0) (.slice none 0 0) 38
    simpa using this
  have CS : Hid (∀ X, Below w.heap.size w X → Calls Tryz.prog 72 #[.agg #[.int .i64 bu, .int .i64 gu, .slice ta tl.length tc, .slice ka kl.length kc]] X fun e w' => (∃ a1 c1 d1 a2 c2 d2, e = .returned (.agg #[.slice a1 c1 d1, .slice a2 c2 d2]) ∧ TwoP w' X.heap.size (.slice a1 c1 d1) (.slice a2 c2 d2) (hdlsA ta tl) (hdlsA ka kl)) ∧ Below X.heap.size X w') := fun X hX => by
    refine (shelvesOf_any X bu gu ta ka tc kc tl kl (by omega) (by omega) (hS.t.keep hX) (hS.k.keep hX)).mono ?_
    rintro e w' ⟨⟨v1, v2, rfl, h2⟩, hb'⟩
    obtain ⟨a1, d1, rfl, _⟩ := h2.a.form
    obtain ⟨a2, d2, rfl, _⟩ := h2.b.form
    exact ⟨⟨a1, _, d1, a2, _, d2, rfl, h2⟩, hb'⟩
  have HSL : Hid (∀ X v1 v2 base, Below w.heap.size w X → TwoP X base v1 v2 (hdlsA ta tl) (hdlsA ka kl) → Calls Tryz.prog 82 #[.agg #[v1, v2], .agg #[.int .i64 bu, .int .i64 gu, .slice ta tl.length tc, .slice ka kl.length kc]] X fun e w' => (∃ a1 k1 n1 a2 k2 n2 m1 m2, e = .returned (.agg #[.int .i64 bu, .int .i64 gu, .slice a1 n1 k1, .slice a2 n2 k2]) ∧ m1.map Prod.fst = tl.map Prod.fst ∧ m2.map Prod.fst = kl.map Prod.fst ∧ StoLV w' X.heap.size (.slice a1 n1 k1) (.slice a2 n2 k2) m1 m2) ∧ Below X.heap.size X w') := fun X v1 v2 base hb h => by
    refine (storeLike_any X v1 v2 base _ _ bu gu ta ka tc kc tl.length kl.length h (by rw [hdlsA_len, hdlsA_len]; omega) (fun x hx => (hdl2_there hS.t hS.k x hx).keep hb) (fun x hx => hS.z x hx) (fun x hx => hS.ts x hx)).mono ?_
    rintro e w' ⟨⟨a1, k1, n1, a2, k2, n2, m1, m2, rfl, q1, q2, o⟩, hb'⟩
    exact ⟨⟨a1, k1, n1, a2, k2, n2, m1, m2, rfl, by rw [q1, hdlsA_x], by rw [q2, hdlsA_x], o.lv⟩, hb'⟩
  have HLN : Hid (tl.length + kl.length ≤ 40) := hn
  have HKW : Hid (∀ X, Below W.heap.size W X → Below w.heap.size w X ∧ S4 X w.heap.size (.int .i64 bu) (.int .i64 gu) (.slice ta tl.length tc) (.slice ka kl.length kc) ∧ S4 X (w.heap.size + 1) (.int .i64 0) (.int .i64 0) (.slice none 0 0) (.slice none 0 0) ∧ w.heap.size + 2 ≤ W.heap.size) := fun X hX => ⟨K0.out.1.trans (hX.mono K0.out.1.size), K0.out.2.1.keep hX, K0.out.2.2.1.keep hX, by have := K0.out.2.2.2; omega⟩
  clear hW hS PF hC hB0 K0 hn
  have HL1 : Hid (∀ m1 m2 : List (Ent × EntR), m1.map Prod.fst = tl.map Prod.fst → m2.map Prod.fst = kl.map Prod.fst → m1.length + m2.length ≤ 40) := fun m1 m2 q1 q2 => by
    have l1 := congrArg List.length q1
    have l2 := congrArg List.length q2
    simp at l1 l2
    have := HLN.out
    omega
  generalize tl.length = tn at *
  generalize kl.length = kn at *
  have HKS : Hid (∀ X, Below W.heap.size W X → (X.cell? ⟨w.heap.size, 0, none⟩ = some (.int .i64 bu) ∧ X.cell? ⟨w.heap.size, 1, none⟩ = some (.int .i64 gu) ∧ X.cell? ⟨w.heap.size, 2, none⟩ = some (.slice ta tn tc) ∧ X.cell? ⟨w.heap.size, 3, none⟩ = some (.slice ka kn kc))) := fun X hX => ⟨(HKW.out X hX).2.1.c0, (HKW.out X hX).2.1.c1, (HKW.out X hX).2.1.c2, (HKW.out X hX).2.1.c3⟩
  have HKA : Hid (∀ X o, Below W.heap.size W X → ((X.alloc o).cell? ⟨w.heap.size, 0, none⟩ = some (.int .i64 bu) ∧ (X.alloc o).cell? ⟨w.heap.size, 1, none⟩ = some (.int .i64 gu) ∧ (X.alloc o).cell? ⟨w.heap.size, 2, none⟩ = some (.slice ta tn tc) ∧ (X.alloc o).cell? ⟨w.heap.size, 3, none⟩ = some (.slice ka kn kc))) := fun X o hX => HKS.out _ (hX.alloc hX.size o)
  have HKT : Hid (∀ X T u0 u1 u2 u3, W.heap.size ≤ T → Below W.heap.size W X → (((((X.setCell ⟨T, 0, none⟩ u0).setCell ⟨T, 1, none⟩ u1).setCell ⟨T, 2, none⟩ u2).setCell ⟨T, 3, none⟩ u3).cell? ⟨w.heap.size, 0, none⟩ = some (.int .i64 bu) ∧ ((((X.setCell ⟨T, 0, none⟩ u0).setCell ⟨T, 1, none⟩ u1).setCell ⟨T, 2, none⟩ u2).setCell ⟨T, 3, none⟩ u3).cell? ⟨w.heap.size, 1, none⟩ = some (.int .i64 gu) ∧ ((((X.setCell ⟨T, 0, none⟩ u0).setCell ⟨T, 1, none⟩ u1).setCell ⟨T, 2, none⟩ u2).setCell ⟨T, 3, none⟩ u3).cell? ⟨w.heap.size, 2, none⟩ = some (.slice ta tn tc) ∧ ((((X.setCell ⟨T, 0, none⟩ u0).setCell ⟨T, 1, none⟩ u1).setCell ⟨T, 2, none⟩ u2).setCell ⟨T, 3, none⟩ u3).cell? ⟨w.heap.size, 3, none⟩ = some (.slice ka kn kc))) := fun X T u0 u1 u2 u3 hT hX => HKS.out _ ((((hX.setCell hT _).setCell hT _).setCell hT _).setCell hT _)
  have B0' : Hid (Below W.heap.size W W.drew) := (Below.refl _ _).drew
  have BZ : Hid (Below W.heap.size W ((W.alloc (.cells #[.int .i64 0, .int .i64 0, .slice none 0 0, .slice none 0 0] 38)).drew) ∧ S4 ((W.alloc (.cells #[.int .i64 0, .int .i64 0, .slice none 0 0, .slice none 0 0] 38)).drew) W.heap.size (.int .i64 0) (.int .i64 0) (.slice none 0 0) (.slice none 0 0) ∧ W.heap.size + 1 ≤ ((W.alloc (.cells #[.int .i64 0, .int .i64 0, .slice none 0 0, .slice none 0 0] 38)).drew).heap.size) := ⟨((Below.refl _ _).alloc (Nat.le_refl _) _).drew, (S4.new W _ _ _ _ _).keep ((Below.refl _ _).drew), by simp [World.drew]⟩
  have HNA : Hid (∀ X : World, S4 (X.alloc (.cells #[.int .i64 0, .int .i64 0, .slice none 0 0, .slice none 0 0] 38)) X.heap.size (.int .i64 0) (.int .i64 0) (.slice none 0 0) (.slice none 0 0) ∧ X.heap.size + 1 = (X.alloc (.cells #[.int .i64 0, .int .i64 0, .slice none 0 0, .slice none 0 0] 38)).heap.size) := fun X => ⟨S4.new X _ _ _ _ _, by simp⟩
  go_enter Tryz.func161, Tryz.ntmps161
  go_upto_region 1 with fail
  rw [← HW.out]
  clear HW
  go_cut [5] from 8 to 11 (fun s5 wx => ∃ T lo b1 b2 k1 n1 k2 n2 m1 m2, s5 = .pointer (some ⟨T, 0, none⟩) ∧ SfCut W bu gu (tl.map Prod.fst) (kl.map Prod.fst) T lo b1 b2 k1 n1 k2 n2 m1 m2 wx)
  case first =>
    go_region_held3 (fun X => X.cell? ⟨w.heap.size, 0, none⟩ = some (.int .i64 bu) ∧ X.cell? ⟨w.heap.size, 1, none⟩ = some (.int .i64 gu) ∧ X.cell? ⟨w.heap.size, 2, none⟩ = some (.slice ta tn tc) ∧ X.cell? ⟨w.heap.size, 3, none⟩ = some (.slice ka kn kc))
      (first | ((with_reducible refine HKS.out _ ?_); (with_reducible exact BB.out)) | ((with_reducible refine HKS.out _ ?_); (with_reducible exact BA.out)) | ((with_reducible refine HKS.out _ ?_); (with_reducible exact BZ.out.1)) | ((with_reducible refine HKS.out _ ?_); (with_reducible exact B0'.out)) | ((with_reducible refine HKA.out _ _ ?_); (with_reducible exact BB.out)) | ((with_reducible refine HKA.out _ _ ?_); (with_reducible exact BA.out)) | ((with_reducible refine HKA.out _ _ ?_); (with_reducible exact B0'.out)) | ((with_reducible refine HKT.out _ _ _ _ _ _ ?_ ?_); (first | exact Nat.le_refl _ | exact BA.out.size | exact BB.out.size); (first | (with_reducible exact BB.out) | exact BB.out.alloc BB.out.size _)))
      (first
      | (go_at_call 82; (with_reducible refine (HSL.out wa _ _ W.heap.size ?_ ?_).mono ?_); (exact (HKW.out _ BA.out).1); (exact TP.out); rintro r0 wb ⟨⟨b1, k1, n1, b2, k2, n2, m1, m2, rfl, q1, q2, o⟩, hbb⟩; have BB : Hid (Below W.heap.size W wb) := BA.out.trans (hbb.mono BA.out.size); have OA : Hid (StoLV wb wa.heap.size (.slice b1 n1 k1) (.slice b2 n2 k2) m1 m2 ∧ m1.map Prod.fst = tl.map Prod.fst ∧ m2.map Prod.fst = kl.map Prod.fst ∧ Below wa.heap.size wa wb) := ⟨o, q1, q2, hbb⟩; clear o q1 q2 hbb; try (obtain ⟨z0, z1, z2, z3, zf, _⟩ := SA.out.keep OA.out.2.2.2; have zf0 := zf 0; have zf1 := zf 1; have zf2 := zf 2; have zf3 := zf 3; clear zf))
      | (go_at_call 82; (with_reducible refine (HSL.out (wa.alloc (.cells #[.int .i64 0, .int .i64 0, .slice none 0 0, .slice none 0 0] 38)) _ _ W.heap.size ?_ ?_).mono ?_); (exact (HKW.out _ (BA.out.alloc BA.out.size _)).1); (exact TP.out.below ((Below.refl _ _).alloc (Nat.le_refl _) _)); rintro r0 wb ⟨⟨b1, k1, n1, b2, k2, n2, m1, m2, rfl, q1, q2, o⟩, hbb⟩; have BB : Hid (Below W.heap.size W wb) := (BA.out.alloc BA.out.size _).trans (hbb.mono (BA.out.alloc BA.out.size _).size); have OB : Hid (StoLV wb (wa.alloc (.cells #[.int .i64 0, .int .i64 0, .slice none 0 0, .slice none 0 0] 38)).heap.size (.slice b1 n1 k1) (.slice b2 n2 k2) m1 m2 ∧ m1.map Prod.fst = tl.map Prod.fst ∧ m2.map Prod.fst = kl.map Prod.fst ∧ Below (wa.alloc (.cells #[.int .i64 0, .int .i64 0, .slice none 0 0, .slice none 0 0] 38)).heap.size (wa.alloc (.cells #[.int .i64 0, .int .i64 0, .slice none 0 0, .slice none 0 0] 38)) wb ∧ S4 wb wa.heap.size (.int .i64 0) (.int .i64 0) (.slice none 0 0) (.slice none 0 0)) := ⟨o, q1, q2, hbb, (HNA.out wa).1.keep hbb⟩; clear o q1 q2 hbb; obtain ⟨z0, z1, z2, z3, zf, _⟩ := OB.out.2.2.2.2; have zf0 := zf 0; have zf1 := zf 1; have zf2 := zf 2; have zf3 := zf 3; clear zf)
      | (go_at_call 72; (with_reducible refine (CS.out W.drew ?_).mono ?_); (exact (HKW.out _ B0'.out).1); rintro r0 wa ⟨⟨a1, c1, d1, a2, c2, d2, rfl, tp⟩, hba⟩; have BA : Hid (Below W.heap.size W wa) := B0'.out.trans (hba.mono B0'.out.size); have TP : Hid (TwoP wa W.heap.size (.slice a1 c1 d1) (.slice a2 c2 d2) (hdlsA ta tl) (hdlsA ka kl)) := tp; clear hba tp)
      | (go_at_call 72; (with_reducible refine (CS.out ((W.alloc (.cells #[.int .i64 0, .int .i64 0, .slice none 0 0, .slice none 0 0] 38)).drew) ?_).mono ?_); (exact (HKW.out _ BZ.out.1).1); rintro r0 wa ⟨⟨a1, c1, d1, a2, c2, d2, rfl, tp⟩, hba⟩; have BA : Hid (Below W.heap.size W wa) := BZ.out.1.trans (hba.mono BZ.out.1.size); have TP : Hid (TwoP wa W.heap.size (.slice a1 c1 d1) (.slice a2 c2 d2) (hdlsA ta tl) (hdlsA ka kl)) := tp.lower BZ.out.1.size; have SA : Hid (S4 wa W.heap.size (.int .i64 0) (.int .i64 0) (.slice none 0 0) (.slice none 0 0)) := BZ.out.2.1.keep hba; have SZ : Hid (W.heap.size + 1 ≤ wa.heap.size) := Nat.le_trans BZ.out.2.2 hba.size; clear hba tp)
      | (go_at_call 82; trace_state; fail))
    all_goals go_wp2_with fail
    all_goals go_meet
    all_goals first
      | exact ⟨W.heap.size, wa.heap.size, b1, b2, k1, n1, k2, n2, m1, m2, rfl, SfCut.put BB.out (SA.out.keep OA.out.2.2.2) OA.out.1 (fun h => by have := OA.out.1.t.ge h; have := SZ.out; omega) (fun h => by have := OA.out.1.k.ge h; have := SZ.out; omega) (Nat.le_refl _) BA.out.size OA.out.2.2.2.size OA.out.2.1 OA.out.2.2.1⟩
      | exact ⟨wa.heap.size, _, b1, b2, k1, n1, k2, n2, m1, m2, rfl, SfCut.put BB.out OB.out.2.2.2.2 OB.out.1 (fun h => by have := OB.out.1.t.ge h; have := (HNA.out wa).2; omega) (fun h => by have := OB.out.1.k.ge h; have := (HNA.out wa).2; omega) BA.out.size (by have := BA.out.size; have := (HNA.out wa).2; omega) OB.out.2.2.2.1.size OB.out.2.1 OB.out.2.2.1⟩
      | exact ⟨wb.heap.size, wa.heap.size, b1, b2, k1, n1, k2, n2, m1, m2, rfl, ⟨BB.out.alloc BB.out.size _, S4.new wb _ _ _ _ _, OA.out.1.below ((Below.refl _ _).alloc (Nat.le_refl _) _), (fun h => by have := OA.out.1.t.lt h; omega), (fun h => by have := OA.out.1.k.lt h; omega), BA.out.size, (by have := OA.out.2.2.2.size; simp; omega), OA.out.2.1, OA.out.2.2.1⟩⟩
  case rest =>
  obtain ⟨T, lo, b1, b2, k1, n1, k2, n2, m1, m2, rfl, hcut⟩ := hcut
  generalize wc = V at *
  obtain ⟨hn1, i1⟩ := slice_len hcut.o.t
  obtain ⟨hn2, i2⟩ := slice_len hcut.o.k
  subst hn1 hn2
  have hml := HL1.out m1 m2 hcut.e1 hcut.e2
  have CS2 : Hid (Calls Tryz.prog 72 #[.agg #[.int .i64 bu, .int .i64 gu, .slice b1 m1.length k1, .slice b2 m2.length k2]] V fun e w' => (∃ a1 c1 d1 a2 c2 d2, e = .returned (.agg #[.slice a1 c1 d1, .slice a2 c2 d2]) ∧ TwoP w' V.heap.size (.slice a1 c1 d1) (.slice a2 c2 d2) (hdlsA b1 m1) (hdlsA b2 m2)) ∧ Below V.heap.size V w') := by
    refine (shelvesOf_any V bu gu b1 b2 k1 k2 m1 m2 (by omega) (by omega) i1 i2).mono ?_
    rintro e w' ⟨⟨v1, v2, rfl, h2⟩, hb'⟩
    obtain ⟨a1, d1, rfl, _⟩ := h2.a.form
    obtain ⟨a2, d2, rfl, _⟩ := h2.b.form
    exact ⟨⟨a1, _, d1, a2, _, d2, rfl, h2⟩, hb'⟩
  have CAL : Hid (∀ X v1 v2 base, TwoP X base v1 v2 (hdlsA b1 m1) (hdlsA b2 m2) → Calls Tryz.prog 118 #[.agg #[v1, v2]] X fun e w' => (∃ a n c, e = .returned (.slice a n c) ∧ n = m1.length + m2.length ∧ OwnP w' X.heap.size (.slice a n c) (hdl2 b1 b2 m1 m2)) ∧ Below X.heap.size X w') := fun X v1 v2 base h => by
    refine (shAll_any X v1 v2 base _ _ h (by rw [hdlsA_len, hdlsA_len]; omega)).mono ?_
    rintro e w' ⟨⟨v, rfl, ho⟩, hb'⟩
    obtain ⟨a, c, rfl, _⟩ := ho.form
    exact ⟨⟨a, _, c, rfl, by rw [List.length_append, hdlsA_len, hdlsA_len], ho⟩, hb'⟩
  have HCT : Hid (SfCut W bu gu (tl.map Prod.fst) (kl.map Prod.fst) T lo b1 b2 k1 m1.length k2 m2.length m1 m2 V) := hcut
  have HML : Hid (m1.length + m2.length ≤ 40) := hml
  have e0 := hcut.s.c0
  have e1 := hcut.s.c1
  have e2 := hcut.s.c2
  have e3 := hcut.s.c3
  clear hcut i1 i2 HKS HKA HKT B0' BZ HNA CS HSL HL1 HLN
  have hmk : m1.length ≤ 40 ∧ m2.length ≤ 40 := by omega
  obtain ⟨M1, hM1⟩ : ∃ n, m1.length = n := ⟨_, rfl⟩
  obtain ⟨M2, hM2⟩ : ∃ n, m2.length = n := ⟨_, rfl⟩
  have HMN : Hid (m1.length = M1 ∧ m2.length = M2) := ⟨hM1, hM2⟩
  rw [hM1, hM2] at HCT CS2 CAL HML hml hmk
  rw [hM1] at e2
  rw [hM2] at e3
  clear hM1 hM2
  go_wp2_with fail
  refine CS2.out.mono ?_
  rintro r0 w2 ⟨⟨a1, c1, d1, a2, c2, d2, rfl, tp⟩, hb2⟩
  have CA := CAL.out w2 _ _ _ tp
  have HB2 : Hid (Below V.heap.size V w2) := hb2
  clear CS2 CAL tp hb2 e0 e1 e2 e3
  go_wp2_with fail
  refine CA.mono ?_
  rintro r0 w3 ⟨⟨av, n, ac, rfl, hnn, ho⟩, hb3⟩
  have HB3 : Hid (Below V.heap.size V w3) := HB2.out.trans (hb3.mono HB2.out.size)
  have HST : Hid (StoLV w3 lo (.slice b1 M1 k1) (.slice b2 M2 k2) (turnP p softE 0 m1) (turnP p softE (0 - m1.length) m2)) := by
    rw [Nat.zero_sub, turnP_zero, turnP_zero]
    exact HCT.out.o.below HB3.out
  have HAL : Hid (∀ X, Out (fp (.slice b1 M1 k1) m1 ++ fp (.slice b2 M2 k2) m2) w3 X → ∀ (k : Nat) h, (hdl2 b1 b2 m1 m2)[k]? = some h → ∃ g, av = some ⟨g, 0, none⟩ ∧ X.cell? ⟨g, k, none⟩ = some (.pointer (some ⟨h.b, h.o, none⟩))) := fun X hX k h hk => by
    obtain ⟨va', vc', e0, _, hf⟩ := ho.form
    simp only [Value.slice.injEq] at e0
    obtain ⟨rfl, _, rfl⟩ := e0
    rcases hf with e | ⟨g, e, hge, hg, hc⟩
    · rw [e] at hk; simp at hk
    · refine ⟨g, e, ?_⟩
      rw [hX.cell g k hg (fun hm => ?_)]
      · exact hc k h hk
      · have hv := HB2.out.size
        rcases List.mem_append.1 hm with hm | hm
        · have := HCT.out.o.t.lt hm; omega
        · have := HCT.out.o.k.lt hm; omega
  have HLEN : Hid ((hdl2 b1 b2 m1 m2).length = n) := by
    show _ = _
    unfold hdl2
    rw [List.length_append, hdlsA_len, hdlsA_len, HMN.out.1, HMN.out.2, hnn]
  clear hb3 ho CA HB2
  go_wp2_with fail
  go_loopw [16] (fun i wr => ∃ k : Nat, k ≤ n ∧ i = .int .i64 (k : Int) ∧ StoLV wr lo (.slice b1 M1 k1) (.slice b2 M2 k2) (turnP p softE k m1) (turnP p softE (k - m1.length) m2) ∧ Out (fp (.slice b1 M1 k1) m1 ++ fp (.slice b2 M2 k2) m2) w3 wr ∧ Below lo w3 wr) (fun i _ => n - (intOf i).toNat)
  case atStart => exact ⟨0, Nat.zero_le _, rfl, HST.out, Out.refl _ _, Below.refl _ _⟩
  case round =>
    obtain ⟨k, hk, rfl, hs, hou, hb⟩ := hrel
    clear HST
    have HWW : Hid (∀ X, Below lo w3 X → Below w.heap.size w X ∧ S4 X (w.heap.size + 1) (.int .i64 0) (.int .i64 0) (.slice none 0 0) (.slice none 0 0) ∧ w.heap.size + 1 < lo) := fun X hX => by
      have b1 := HCT.out.b.trans (HB3.out.mono HCT.out.b.size)
      have hl := HCT.out.lo1
      obtain ⟨q1, _, q2, q3⟩ := HKW.out w3 b1
      refine ⟨q1.trans (hX.mono (by omega)), ⟨by rw [hX.cell (p := ⟨w.heap.size + 1, 0, none⟩) (by simp only; omega)]; exact q2.c0, by rw [hX.cell (p := ⟨w.heap.size + 1, 1, none⟩) (by simp only; omega)]; exact q2.c1, by rw [hX.cell (p := ⟨w.heap.size + 1, 2, none⟩) (by simp only; omega)]; exact q2.c2, by rw [hX.cell (p := ⟨w.heap.size + 1, 3, none⟩) (by simp only; omega)]; exact q2.c3, fun o => by rw [hX.frozen (p := ⟨w.heap.size + 1, o, none⟩) (by simp only; omega)]; exact q2.fr o, Nat.lt_of_lt_of_le q2.lt hX.size⟩, by omega⟩
    by_cases hlt : k < n
    · obtain ⟨h, hr⟩ : ∃ r, (hdl2 b1 b2 m1 m2)[k]? = some r := ⟨(hdl2 b1 b2 m1 m2)[k]'(by have := HLEN.out; omega), List.getElem?_eq_getElem _⟩
      obtain ⟨g', rfl, p1⟩ := HAL.out wr hou k h hr
      have hx : h.x ∈ tl.map Prod.fst ++ kl.map Prod.fst := by
        have : h.x ∈ (hdl2 b1 b2 m1 m2).map Hdl.x := List.mem_map_of_mem (List.mem_of_getElem? hr)
        rw [hdl2_x, HCT.out.e1, HCT.out.e2] at this
        exact this
      have CP := HPF.out.1.call wr h (HPF.out.1.keep _ _ HPF.out.2.1 ((HWW.out wr hb).1.mono HPF.out.2.2)) (soft_step hs hr).1 (HTL.out h.x hx)
      have gk : (k : Int) < n := by omega
      have gk0 : (0 : Int) ≤ k := by omega
      have HNX : Hid (∀ X, Below wr.heap.size wr X → X.cell? ⟨h.b, h.o + 4 + 5, none⟩ = some (.bool h.x.b1) ∧ X.frozen? ⟨h.b, h.o + 4 + 5, none⟩ = false ∧ (p h.x = false → StoLV X lo (.slice b1 M1 k1) (.slice b2 M2 k2) (turnP p softE (k + 1) m1) (turnP p softE (k + 1 - m1.length) m2) ∧ Out (fp (.slice b1 M1 k1) m1 ++ fp (.slice b2 M2 k2) m2) w3 X ∧ Below lo w3 X) ∧ (p h.x = true → StoLV (X.setCell ⟨h.b, h.o + 4 + 5, none⟩ (.bool true)) lo (.slice b1 M1 k1) (.slice b2 M2 k2) (turnP p softE (k + 1) m1) (turnP p softE (k + 1 - m1.length) m2) ∧ Out (fp (.slice b1 M1 k1) m1 ++ fp (.slice b2 M2 k2) m2) w3 (X.setCell ⟨h.b, h.o + 4 + 5, none⟩ (.bool true)) ∧ Below lo w3 (X.setCell ⟨h.b, h.o + 4 + 5, none⟩ (.bool true)))) := fun X hX => by
        have st := soft_step (hs.below hX) hr
        have ouX := hou.trans (Out.below hX)
        have bX := hb.trans (hX.mono (by have := hb.size; have := HB3.out.size; have := HCT.out.lo2; omega))
        refine ⟨st.2.1, st.2.2.1, fun hp => ⟨st.2.2.2.2.2.1 hp, ouX, bX⟩, fun hp => ⟨st.2.2.2.2.2.2 hp, ouX.trans ((Out.set X h.b _ _).mono fun b hm => ?_), bX.setCell st.2.2.2.1 _⟩⟩
        simp at hm
        subst hm
        rcases st.2.2.2.2.1 with h1 | h1
        · exact List.mem_append_left _ h1
        · exact List.mem_append_right _ h1
      clear hs hou hb hr hx HAL HWW
      cases he : p h.x
      · rw [he] at CP
        have HA : Hid _ := fun X hX => (HNX.out X hX).2.2.1 he
        clear HNX he
        go_wp2_with (go_at_fn g; refine CP.mono ?_; rintro e w4 ⟨rfl, hb4⟩)
        go_roundw
        case rel => exact ⟨k + 1, by omega, by go_num, HA.out _ hb4⟩
        case measure => simp [intOf]; omega
      · rw [he] at CP
        have HA : Hid (∀ X, Below wr.heap.size wr X → X.cell? ⟨h.b, h.o + 4 + 5, none⟩ = some (.bool h.x.b1) ∧ X.frozen? ⟨h.b, h.o + 4 + 5, none⟩ = false ∧ _) := fun X hX => ⟨(HNX.out X hX).1, (HNX.out X hX).2.1, (HNX.out X hX).2.2.2 he⟩
        clear HNX he
        go_wp2_with (go_at_fn g; refine CP.mono ?_; rintro e w4 ⟨rfl, hb4⟩; obtain ⟨y9, yf, hnx⟩ := HA.out _ hb4; have HX : Hid _ := hnx; clear hnx)
        go_roundw
        case rel => exact ⟨k + 1, by omega, by go_num, HX.out⟩
        case measure => simp [intOf]; omega
    · have ek : k = n := by omega
      subst ek
      have ml1 := HMN.out.1
      have ml2 := HMN.out.2
      rw [turnP_all (by omega), turnP_all (by omega)] at hs
      have sT : S4 wr T (.int .i64 bu) (.int .i64 gu) (.slice b1 M1 k1) (.slice b2 M2 k2) := by
        have s3 := HCT.out.s.keep HB3.out
        have nT : T ∉ fp (.slice b1 M1 k1) m1 ++ fp (.slice b2 M2 k2) m2 := fun hm => by
          rcases List.mem_append.1 hm with hm | hm
          · exact HCT.out.t1 hm
          · exact HCT.out.t2 hm
        exact ⟨by rw [hou.cell T 0 s3.lt nT]; exact s3.c0, by rw [hou.cell T 1 s3.lt nT]; exact s3.c1, by rw [hou.cell T 2 s3.lt nT]; exact s3.c2, by rw [hou.cell T 3 s3.lt nT]; exact s3.c3, fun o => by rw [hou.frozen T o s3.lt nT]; exact s3.fr o, Nat.lt_of_lt_of_le s3.lt hou.size⟩
      obtain ⟨bw, s4, hlo⟩ := HWW.out wr hb
      have HO : Hid (StoLV wr lo (.slice b1 M1 k1) (.slice b2 M2 k2) (turnM p softE m1) (turnM p softE m2) ∧ w.heap.size + 1 < lo ∧ Below w.heap.size w wr ∧ (turnM p softE m1).map Prod.fst = turnE p softE (tl.map Prod.fst) ∧ (turnM p softE m2).map Prod.fst = turnE p softE (kl.map Prod.fst)) := ⟨hs, hlo, bw, by rw [turnM_fst, HCT.out.e1], by rw [turnM_fst, HCT.out.e2]⟩
      have y0 := sT.c0
      have y1 := sT.c1
      have y2 := sT.c2
      have y3 := sT.c3
      have z0 := s4.c0
      have z1 := s4.c1
      have z2 := s4.c2
      have z3 := s4.c3
      have zf0 := s4.fr 0
      have zf1 := s4.fr 1
      have zf2 := s4.fr 2
      have zf3 := s4.fr 3
      clear s4 sT hs hou hb bw HWW HAL HPF ml1 ml2
      go_wp2_with fail
      refine bodyPost_ret (v := .agg #[.int .i64 bu, .int .i64 gu, .slice b1 M1 k1, .slice b2 M2 k2]) (by simp [results, Tryz.results161, go_sem, z0, z1, z2, z3]) rfl ?_
      obtain ⟨o, hlt, hB, x1, x2⟩ := HO.out
      exact ⟨⟨b1, k1, M1, b2, k2, M2, _, _, rfl, x1, x2, ((((o.off1 _ hlt).off1 _ hlt).off1 _ hlt).off1 _ hlt).lower (by omega)⟩, (((hB.setCell (by simp) _).setCell (by simp) _).setCell (by simp) _).setCell (by simp) _⟩
end Go.Proofs.YtmidfgjnaebfiaaGreatDoor
/-
  The model's keys of all entries, of one key; purges as a whole, by the model.
-/
namespace Go.Proofs.YtmidfgjnaebfiaaGreatDoor
open Go.ChangeShapes Go.WideShapes Go.ChangeAt Go.RowKit Go.Sort
def anyP (_ : Ent) : Bool := true
set_option maxRecDepth 100000 in
set_option maxHeartbeats 8000000 in
theorem l9All_at (w : World) (S : Nat) (ta ka : Option Addr) (tc kc : Nat) (tl kl : List (Ent × EntR)) (c2 : w.cell? ⟨S, 2, none⟩ = some (.slice ta tl.length tc)) (c3 : w.cell? ⟨S, 3, none⟩ = some (.slice ka kl.length kc)) (hl : tl.length + kl.length ≤ 1000000) (ht : EntsIn w ta tl) (hk : EntsIn w ka kl) :
    Calls Tryz.prog 111 #[.pointer (some ⟨S, 0, none⟩)] w fun e w' => (∃ v, e = .returned v ∧ RowT w' w.heap.size v (keysP (anyP) (tl.map Prod.fst ++ kl.map Prod.fst))) ∧ Below w.heap.size w w' := by
  obtain ⟨i0, hi0, hz0, hz1, hz2⟩ := info_parts cTextI
  obtain ⟨W, hW⟩ : ∃ W, W = w.alloc (.cells #[] 9) := ⟨_, rfl⟩
  have HW : Hid (W = w.alloc (.cells #[] 9)) := hW
  have bW : Below w.heap.size w W := by rw [hW]; exact (Below.refl _ _).alloc (Nat.le_refl _) _
  have hS : S < w.heap.size := block_lt_of_cell c2
  have CA : Hid (Calls Tryz.prog 123 #[.pointer (some ⟨S, 0, none⟩)] W fun e w' => (∃ v, e = .returned v ∧ OwnE w' W.heap.size v (tl ++ kl)) ∧ Below W.heap.size W w') := l8All_any W S 0 ta ka tc kc tl kl (by rw [bW.cell (p := ⟨S, 0 + 2, none⟩) hS]; exact c2) (by rw [bW.cell (p := ⟨S, 0 + 3, none⟩) hS]; exact c3) hl (ht.keep bW) (hk.keep bW)
  have HIN : Hid (∀ X, Below w.heap.size w X → ∀ q ∈ tl ++ kl, EntIn X q.1 q.2) := fun X hX q hq' => by
    rcases List.mem_append.1 hq' with h | h
    · rcases ht.keep hX with e | ⟨b, off, _, hat⟩
      · subst e; simp at h
      · obtain ⟨i, hi⟩ := List.mem_iff_getElem?.1 h; exact hat.in hi
    · rcases hk.keep hX with e | ⟨b, off, _, hat⟩
      · subst e; simp at h
      · obtain ⟨i, hi⟩ := List.mem_iff_getElem?.1 h; exact hat.in hi
  have HR0 : Hid (RowT W w.heap.size (.slice (some ⟨w.heap.size, 0, none⟩) 0 0) [] ∧ Below w.heap.size w W) := ⟨by rw [hW]; exact RowT.made0 w _ (Nat.le_refl _), bW⟩
  have HWS : Hid (w.heap.size + 1 ≤ W.heap.size) := by rw [hW]; simp [Hid]
  rw [← List.map_append]
  have hln : (tl ++ kl).length ≤ 1000000 := by rw [List.length_append]; exact hl
  clear hW bW c2 c3 ht hk hS hl
  generalize tl ++ kl = al at *
  go_enter Tryz.func111, Tryz.ntmps111
  go_wp2_with fail
  rw [← HW.out]
  refine CA.out.mono ?_
  rintro e w1 ⟨⟨v, rfl, ho⟩, hb1⟩
  have hbb := HR0.out.2.trans (hb1.mono HR0.out.2.size)
  obtain ⟨a, c, rfl, _, hi⟩ := ho.at (HIN.out _ hbb)
  have K1 : Hid (KW w w1 (.slice a al.length c) al (.slice (some ⟨w.heap.size, 0, none⟩) 0 0) w1 ∧ RowT w1 w.heap.size (.slice (some ⟨w.heap.size, 0, none⟩) 0 0) []) := ⟨⟨hbb, ho.lower HWS.out, fun q hq => .inl (Option.some.inj hq).symm, fun q hq => (World.ownsRow.lt ho q hq).2, Nat.le_refl _⟩, HR0.out.1.below hb1⟩
  clear HW CA hb1 hbb ho hi HR0 HWS
  obtain ⟨n, hn0⟩ : ∃ n, al.length = n := ⟨_, rfl⟩
  rw [hn0] at hln K1 ⊢
  have HN : Hid (al.length = n) := hn0
  clear hn0
  go_wp2_with fail
  go_loopw [3, 5] (fun v i wr => ∃ k : Nat, k ≤ n ∧ i = .int .i64 (k : Int) ∧ RowT wr w.heap.size v (keysP (anyP) ((al.take k).map Prod.fst)) ∧ KW w w1 (.slice a n c) al v wr) (fun _ i _ => n - (intOf i).toNat)
  case atStart => exact ⟨0, Nat.zero_le _, rfl, by simpa [keysP] using K1.out.2, K1.out.1⟩
  case round =>
    obtain ⟨k, hk, rfl, ho, hkw⟩ := hrel
    clear K1
    by_cases hlt : k < n
    · obtain ⟨⟨x, r⟩, hr⟩ : ∃ r, al[k]? = some r := ⟨al[k]'(by have := HN.out; omega), List.getElem?_eq_getElem _⟩
      have hin : EntsIn wr a al := by
        obtain ⟨a', c', e', _, hi⟩ := hkw.all.at (HIN.out _ hkw.b)
        simp only [Value.slice.injEq] at e'
        rw [e'.1]; exact hi
      rcases hin with h | ⟨b, off, rfl, hat⟩
      · subst h; simp at hr
      have cc := hat.cells hr
      have p0 := cc.1
      simp only at p0
      have hnx := keysP_next (p := anyP) hr
      simp only at hnx
      have hle : (keysP (anyP) ((al.take k).map Prod.fst)).length ≤ 1000000 := by
        have := keysP_len (anyP) ((al.take k).map Prod.fst)
        rw [List.length_map, List.length_take] at this
        omega
      obtain ⟨m, hm⟩ : ∃ m, m = keysP (anyP) ((al.take k).map Prod.fst) := ⟨_, rfl⟩
      rw [← hm] at ho hnx hle
      obtain ⟨va, vc, rfl, hvc⟩ := row_form ho
      have HO : Hid (RowT wr w.heap.size (.slice va m.length vc) m) := ho
      have HB : Hid (KW w w1 (.slice (some ⟨b, off, none⟩) n c) al (.slice va m.length vc) wr) := hkw
      have gk : (k : Int) < n := by omega
      have gk0 : (0 : Int) ≤ k := by omega
      clear hat hr hm ho hkw cc HIN
      ·
        have he : anyP x = true := rfl
        rw [he] at hnx
        simp only [if_true] at hnx
        obtain ⟨xk, hxk⟩ : ∃ t, x.key = t := ⟨_, rfl⟩
        rw [hxk] at hnx p0
        have K2 : Below wr.heap.size wr (wr.alloc (.cells #[.string xk] 9)) := (Below.refl _ _).alloc (Nat.le_refl _) _
        obtain ⟨mn, hmn⟩ : ∃ q, m.length = q := ⟨_, rfl⟩
        have O2 : Hid ((wr.alloc (.cells #[.string xk] 9)).ownsRow w.heap.size 9 1 (.slice va mn vc) mn (cTexts m)) := by
          have := HO.out.below K2
          unfold RowT at this
          rw [hmn] at this
          exact this
        have s2 : Hid (w.heap.size ≤ (wr.alloc (.cells #[.string xk] 9)).heap.size) := by show _ ≤ _; have := K2.size; have := HB.out.b.size; omega
        have HA : Hid (∀ g cap w3, w3.ownsRow w.heap.size 9 1 (.slice (some ⟨g, 0, none⟩) (mn + 1) cap) (mn + 1) (cTexts m ++ [.string xk]) → (wr.alloc (.cells #[.string xk] 9)).grownBy w3 (Value.slice va mn vc).ownBlock → ((Value.slice va mn vc).ownBlock = some g ∨ g = (wr.alloc (.cells #[.string xk] 9)).heap.size) → RowT w3 w.heap.size (.slice (some ⟨g, 0, none⟩) (mn + 1) cap) (keysP (anyP) ((al.take (k + 1)).map Prod.fst)) ∧ KW w w1 (.slice (some ⟨b, off, none⟩) n c) al (.slice (some ⟨g, 0, none⟩) (mn + 1) cap) w3) := fun g cap w3 h1 h2 h3 => by
          have := RowT.app (w := w) hmn s2.out O2.out h1 h2 (HB.out.below K2).b rfl
          rw [hnx]
          have hkw := HB.out.below K2
          rw [hmn] at hkw
          exact ⟨this.1, hkw.app h2 this.2 rfl h3⟩
        have HW : Hid (∀ j u, ([Value.string xk] : List Value)[j]? = some u → (wr.alloc (.cells #[.string xk] 9)).cell? ((⟨wr.heap.size, 0, none⟩ : Addr).add j) = some u) := cell_str wr xk _
        rw [hmn] at hle hvc ⊢
        clear K2 hnx HO HB hmn
        go_wp2_with (at_builtin; refine wpList_append_lies _ rfl (.tmp 15) (.tmp 21) 30 rfl w.heap.size 9 i0 _ 1 16 Tryz.underlying30 hi0 hz0 hz1 hz2 rfl (by omega) _ mn (cTexts m) rfl O2.out _ 1 1 [.string xk] rfl rfl HW.out (by simp [Value.oneCell']) (by omega) (by unfold maxLen; omega) (by omega) s2.out _ rfl ?_; intro g cp w3 h1 h2 h3 h4)
        go_roundw
        case rel => exact ⟨k + 1, by omega, by go_num, (HA.out _ _ _ h1 h2 h3).1, (HA.out _ _ _ h1 h2 h3).2⟩
        case measure => simp [intOf]; omega
    · have ek : k = n := by omega
      subst ek
      obtain ⟨va, vc, rfl, _⟩ := row_form ho
      have HE : Hid ((∃ v', Ending.returned (.slice va (keysP (anyP) ((al.take k).map Prod.fst)).length vc) = .returned v' ∧ RowT wr w.heap.size v' (keysP (anyP) (al.map Prod.fst))) ∧ Below w.heap.size w wr) := ⟨⟨_, rfl, by rw [List.take_of_length_le (by have := HN.out; omega)] at ho ⊢; exact ho⟩, hkw.b⟩
      clear ho hkw
      go_wp2_with fail
      go_ret
      exact HE.out
theorem keysP_none {p : Ent → Bool} {L : List Ent} (h : ∀ x ∈ L, p x = false) : keysP p L = [] := by
  unfold keysP
  rw [List.filter_eq_nil_iff.2 (fun x hx => by simp [h x hx])]
  rfl
theorem keysP_key {key : ByteArray} {L : List Ent} {x : Ent} (hn : NdK L) (hx : L.find? (isKey key) = some x) : keysP (isKey key) L = [key] := by
  obtain ⟨hk, A, B, rfl, hA⟩ := List.find?_eq_some_iff_append.1 hx
  have e : x.key = key := by rw [isKey_iff] at hk; simpa using (of_decide_eq_true hk).symm
  have hB : ∀ y ∈ B, isKey key y = false := fun y hy => by
    by_cases c : isKey key y = true
    · have h2 : NdK ([x] ++ B) := (NdK.app hn).2.1
      exact absurd (isKey_eq hk c) ((NdK.app h2).2.2 x (by simp) y hy)
    · simpa using c
  unfold keysP
  rw [List.filter_append, List.filter_cons_of_pos hk, List.filter_eq_nil_iff.2 (fun a ha => by have := hA a ha; simpa using this), List.filter_eq_nil_iff.2 (fun y hy => by simp [hB y hy])]
  simp [e]
theorem RowT.one (w : World) (base : Nat) (t : ByteArray) (hb : base ≤ w.heap.size) : RowT (w.alloc (.cells #[.string t] 9)) base (.slice (some ⟨w.heap.size, 0, none⟩) 1 1) [t] := by
  refine ⟨rfl, .inr ⟨w.heap.size, 1, #[.string t], rfl, hb, heap_alloc_new w _, Nat.le_refl _, by unfold maxLen; omega, rfl, rfl⟩⟩
set_option maxRecDepth 100000 in
set_option maxHeartbeats 8000000 in
theorem l9Keys_at (w : World) (S : Nat) (key : ByteArray) (ta ka : Option Addr) (tc kc : Nat) (tl kl : List (Ent × EntR)) (c2 : w.cell? ⟨S, 2, none⟩ = some (.slice ta tl.length tc)) (c3 : w.cell? ⟨S, 3, none⟩ = some (.slice ka kl.length kc)) (hl : tl.length + kl.length ≤ 1000000) (hf : ∀ q ∈ tl ++ kl, EntFit q.1) (ht : EntsIn w ta tl) (hk : EntsIn w ka kl) (hn : NdK (tl.map Prod.fst ++ kl.map Prod.fst)) :
    Calls Tryz.prog 106 #[.pointer (some ⟨S, 0, none⟩), .string key] w fun e w' => (∃ v, e = .returned v ∧ RowT w' w.heap.size v (keysP (isKey key) (tl.map Prod.fst ++ kl.map Prod.fst))) ∧ Below w.heap.size w w' := by
  have CP : Hid (Calls Tryz.prog 68 #[.pointer (some ⟨S, 0, none⟩), .string key] w fun e w' => ((∃ x r, keysP (isKey key) (tl.map Prod.fst ++ kl.map Prod.fst) = [key] ∧ e = .returned (.tuple #[entV x r, .bool true])) ∨ (keysP (isKey key) (tl.map Prod.fst ++ kl.map Prod.fst) = [] ∧ e = .returned (.tuple #[entV zeroEnt zeroR, .bool false]))) ∧ Below w.heap.size w w') := by
    refine (l8Peek_at w S key ta ka tc kc tl kl c2 c3 hl (fun q hq => ⟨(hf q hq).h, (hf q hq).b, (hf q hq).t⟩) ht hk).mono ?_
    rintro e w' ⟨h, hb⟩
    rcases h with ⟨x, r, hx, he, _⟩ | ⟨hx, he⟩
    · exact ⟨.inl ⟨x, r, keysP_key hn hx, he⟩, hb⟩
    · exact ⟨.inr ⟨keysP_none (fun x hx' => by have := List.find?_eq_none.1 hx x hx'; simpa using this), he⟩, hb⟩
  clear c2 c3 hl hf ht hk hn
  generalize keysP (isKey key) (tl.map Prod.fst ++ kl.map Prod.fst) = K at *
  go_enter Tryz.func106, Tryz.ntmps106
  go_wp2_with fail
  refine CP.out.mono ?_
  rintro e w1 ⟨hc, hb1⟩
  clear CP
  rcases hc with ⟨x, r, hK, rfl⟩ | ⟨hK, rfl⟩
  · unfold entV entW
    subst hK
    obtain ⟨W, hW⟩ : ∃ W, W = w1.alloc (.cells #[.string x.key, .int .i64 x.st, .slice r.ha x.hs.length r.hc, .slice r.ba x.bl.length r.bc, .int .i64 x.t, .int .i64 x.g, .int .i64 x.l, .int .i64 x.s, .int .i64 x.e, .bool x.b1, .bool x.b2, .slice r.ta x.ts.length r.tc, .int .i64 x.pins] 32) := ⟨_, rfl⟩
    have HW : Hid (W = w1.alloc (.cells #[.string x.key, .int .i64 x.st, .slice r.ha x.hs.length r.hc, .slice r.ba x.bl.length r.bc, .int .i64 x.t, .int .i64 x.g, .int .i64 x.l, .int .i64 x.s, .int .i64 x.e, .bool x.b1, .bool x.b2, .slice r.ta x.ts.length r.tc, .int .i64 x.pins] 32)) := hW
    have bW : Below w.heap.size w W := by rw [hW]; exact hb1.alloc hb1.size _
    have HE : Hid (RowT (W.alloc (.cells #[.string key] 9)) w.heap.size (.slice (some ⟨W.heap.size, 0, none⟩) 1 1) [key] ∧ Below w.heap.size w (W.alloc (.cells #[.string key] 9))) := ⟨RowT.one W _ key bW.size, bW.alloc bW.size _⟩
    have hz : W.heap.size = w1.heap.size + 1 := by rw [hW]; simp
    rw [hz] at HE
    clear hW bW hb1 hz
    go_wp2_with fail
    rw [← HW.out]
    go_ret
    exact ⟨⟨_, rfl, HE.out.1⟩, HE.out.2⟩
  · unfold entV entW zeroEnt zeroR
    subst hK
    simp only [List.length_nil]
    have HE : Hid (Below w.heap.size w (w1.alloc (.cells #[.string ⟨#[]⟩, .int .i64 0, .slice none 0 0, .slice none 0 0, .int .i64 0, .int .i64 0, .int .i64 0, .int .i64 0, .int .i64 0, .bool false, .bool false, .slice none 0 0, .int .i64 0] 32))) := hb1.alloc hb1.size _
    clear hb1
    go_wp2_with fail
    go_ret
    exact ⟨⟨_, rfl, RowT.nil _ _⟩, HE.out⟩
/-! ### a purge as a whole -/
def resM (hard : Bool) (ks : List ByteArray) (m : List (Ent × EntR)) : List (Ent × EntR) := if hard then offKs ks m else turnM (inK ks) softE m
def resE (hard : Bool) (q : Ent → Bool) (L : List Ent) : List Ent := if hard then L.filter (fun x => !q x) else turnE q softE L
theorem resM_map (hard : Bool) (ks : List ByteArray) (m : List (Ent × EntR)) : (resM hard ks m).map Prod.fst = resE hard (inK ks) (m.map Prod.fst) := by
  cases hard
  · exact turnM_fst _ _ _
  · exact offKs_map _ _
theorem TLV.low {w w' : World} {B : Nat} {v : Value} {l : List ByteArray} (h : TLV w v l) (hb : ∀ b, v.ownBlock = some b → b < B) (k : Below B w w') : TLV w' v l := by
  rcases h with h | ⟨g, c, rfl, hg, hi, hf⟩
  · exact .inl h
  · have hB := hb g rfl
    exact .inr ⟨g, c, rfl, Nat.lt_of_lt_of_le hg k.size, fun i q hq => by rw [k.cell (p := ⟨g, 0 + i, none⟩) hB]; exact hi i q hq, fun o => by rw [k.frozen (p := ⟨g, o, none⟩) hB]; exact hf o⟩
theorem TLV.at_in {w : World} {a : Option Addr} {n c : Nat} {l : List ByteArray} (h : TLV w (.slice a n c) l) : n = l.length ∧ TIn w a l := by
  obtain ⟨a', c', e, hi⟩ := h.tin
  simp only [Value.slice.injEq] at e
  obtain ⟨rfl, rfl, rfl⟩ := e
  exact ⟨rfl, hi⟩
theorem l9Purge_at (w : World) (B base : Nat) (bu gu : Int) (a1 a2 : Option Addr) (n1 k1 n2 k2 : Nat) (l1 l2 : List (Ent × EntR)) (a : Option Addr) (n kc : Nat) (ks : List ByteArray) (hard : Bool) (hks : ks.length ≤ 1000) (hs : S4 w B (.int .i64 bu) (.int .i64 gu) (.slice a1 n1 k1) (.slice a2 n2 k2)) (h : StoO w base (.slice a1 n1 k1) (.slice a2 n2 k2) l1 l2) (hbase : base ≤ w.heap.size) (hbB : base ≤ B) (hB1 : B ∉ fp (.slice a1 n1 k1) l1) (hB2 : B ∉ fp (.slice a2 n2 k2) l2) (z1 : l1.length ≤ 1000) (z2 : l2.length ≤ 1000) (hk : TLV w (.slice a n kc) ks) (hkb : ∀ b, (Value.slice a n kc).ownBlock = some b → b < base) :
    Calls Tryz.prog 159 #[.pointer (some ⟨B, 0, none⟩), .slice a n kc, .bool hard] w fun e w' => e = .returned (.tuple #[]) ∧ (∃ a1 k1 n1 a2 k2 n2, S4 w' B (.int .i64 bu) (.int .i64 gu) (.slice a1 n1 k1) (.slice a2 n2 k2) ∧ StoLV w' base (.slice a1 n1 k1) (.slice a2 n2 k2) (resM hard ks l1) (resM hard ks l2)) ∧ Below base w w' := by
  obtain ⟨rfl, _⟩ := hk.at_in
  have hk' : ∀ X, Below base w X → TIn X a ks := fun X hX => (hk.low hkb hX).at_in.2
  cases hard
  · refine (l9SoftS_at w B base bu gu a1 a2 n1 k1 n2 k2 l1 l2 a kc ks hks hs h.lv hbase hB1 hB2 z1 z2 hk').mono ?_
    rintro e w' ⟨h1, ⟨h2, h3⟩, h4⟩
    exact ⟨h1, ⟨a1, k1, n1, a2, k2, n2, h2, h3⟩, h4⟩
  · exact l9Hard_at w B base bu gu _ _ l1 l2 a kc ks hks hs h hbase hbB hB1 hB2 (by omega) (by omega) hk'
set_option maxRecDepth 100000 in
set_option maxHeartbeats 16000000 in
theorem l9Do_at (w : World) (S kb : Nat) (bu gu : Int) (ta ka : Option Addr) (tc kc : Nat) (tl kl : List (Ent × EntR)) (a : Option Addr) (n c : Nat) (ks : List ByteArray) (hard : Bool) (hs : S4 w S (.int .i64 bu) (.int .i64 gu) (.slice ta tl.length tc) (.slice ka kl.length kc)) (hl : tl.length + kl.length ≤ 40) (f1 : ∀ q ∈ tl ++ kl, EntFit q.1) (ht : EntsIn w ta tl) (hq : EntsIn w ka kl) (hks : ks.length ≤ 1000) (hr : RowT w kb (.slice a n c) ks) (hkb : kb ≤ w.heap.size) :
    Calls Tryz.prog 105 #[.pointer (some ⟨S, 0, none⟩), .slice a n c, .bool hard] w fun e w' => PurAns ⟨0, bu, gu, resE hard (inK ks) (tl.map Prod.fst), resE hard (inK ks) (kl.map Prod.fst), ks⟩ kb e w' ∧ Below w.heap.size w w' := by
  obtain ⟨W, hW⟩ : ∃ W, W = w.alloc (.cells #[.int .i64 0, .int .i64 0, .int .i64 0, .slice none 0 0, .slice none 0 0, .slice none 0 0] 67) := ⟨_, rfl⟩
  have HW : Hid (W = w.alloc (.cells #[.int .i64 0, .int .i64 0, .int .i64 0, .slice none 0 0, .slice none 0 0, .slice none 0 0] 67)) := hW
  have bW : Below w.heap.size w W := by rw [hW]; exact (Below.refl _ _).alloc (Nat.le_refl _) _
  have sS := hs.keep bW
  have tlv := hr.lv.1
  have tlt : ∀ b, (Value.slice a n c).ownBlock = some b → b < w.heap.size := fun b e => tlv.block_lt b e
  have K0 : Hid (Below w.heap.size w W ∧ S6 W w.heap.size (.int .i64 0) (.int .i64 0) (.int .i64 0) (.slice none 0 0) (.slice none 0 0) (.slice none 0 0) ∧ W.heap.size = w.heap.size + 1) := ⟨bW, by rw [hW]; exact S6.new w _ _ _ _ _ _ _, by rw [hW]; simp⟩
  have CC : Hid (Calls Tryz.prog 87 #[.pointer (some ⟨S, 0, none⟩)] W fun e w' => (∃ a1 k1 n1 a2 k2 n2 m1 m2, e = .returned (.agg #[.int .i64 bu, .int .i64 gu, .slice a1 n1 k1, .slice a2 n2 k2]) ∧ m1.map Prod.fst = tl.map Prod.fst ∧ m2.map Prod.fst = kl.map Prod.fst ∧ StoO w' W.heap.size (.slice a1 n1 k1) (.slice a2 n2 k2) m1 m2) ∧ Below W.heap.size W w') := by
    refine (l8Copy_at W S bu gu ta ka tc kc tl kl ⟨sS.c0, sS.c1, sS.c2, sS.c3⟩ sS.lt (by omega) (by omega) (fun q h => f1 q (List.mem_append.2 (.inl h))) (fun q h => f1 q (List.mem_append.2 (.inr h))) (ht.keep bW) (hq.keep bW)).mono ?_
    rintro e w' ⟨⟨v1, v2, m1, m2, rfl, q1, q2, o⟩, hb⟩
    obtain ⟨a1, k1, rfl, _⟩ := row_form o.t.own
    obtain ⟨a2, k2, rfl, _⟩ := row_form o.k.own
    exact ⟨⟨a1, k1, _, a2, k2, _, m1, m2, rfl, q1, q2, o⟩, hb⟩
  have HT : Hid (∀ X, Below w.heap.size w X → TLV X (.slice a n c) ks) := fun X hX => tlv.low (B := w.heap.size) tlt hX
  have HTB : Hid (∀ b, (Value.slice a n c).ownBlock = some b → kb ≤ b ∧ b < w.heap.size) := fun b e => ⟨hr.lv.2 b e, tlt b e⟩
  have HL : Hid (tl.length + kl.length ≤ 40 ∧ ks.length ≤ 1000 ∧ kb ≤ w.heap.size) := ⟨hl, hks, hkb⟩
  clear hW bW sS tlv tlt hs hl f1 ht hq hks hr hkb
  go_enter Tryz.func105, Tryz.ntmps105
  go_wp2_with fail
  rw [← HW.out]
  refine CC.out.mono ?_
  rintro r0 w1 ⟨⟨a1, k1, n1, a2, k2, n2, m1, m2, rfl, q1, q2, o⟩, hb1⟩
  obtain ⟨V1, hV1⟩ : ∃ V, V = w1.alloc (.cells #[.int .i64 bu, .int .i64 gu, .slice a1 n1 k1, .slice a2 n2 k2] 38) := ⟨_, rfl⟩
  have HV1 : Hid (V1 = w1.alloc (.cells #[.int .i64 bu, .int .i64 gu, .slice a1 n1 k1, .slice a2 n2 k2] 38)) := hV1
  have aV : Below w1.heap.size w1 V1 := by rw [hV1]; exact (Below.refl _ _).alloc (Nat.le_refl _) _
  have bV : Below W.heap.size W V1 := hb1.trans (aV.mono hb1.size)
  have bw : Below w.heap.size w V1 := K0.out.1.trans (bV.mono K0.out.1.size)
  have sV : S4 V1 w1.heap.size (.int .i64 bu) (.int .i64 gu) (.slice a1 n1 k1) (.slice a2 n2 k2) := by rw [hV1]; exact S4.new w1 _ _ _ _ _
  have ln1 : m1.length = tl.length := by have := congrArg List.length q1; simpa using this
  have ln2 : m2.length = kl.length := by have := congrArg List.length q2; simpa using this
  have hln := HL.out
  have hz := K0.out.2.2
  have CP : Hid _ := l9Purge_at V1 w1.heap.size W.heap.size bu gu a1 a2 n1 k1 n2 k2 m1 m2 a n c ks hard hln.2.1 sV (o.below aV) bV.size hb1.size (fun h => by have := o.t.lt h; omega) (fun h => by have := o.k.lt h; omega) (by omega) (by omega) (HT.out V1 bw) (fun b e => by have := (HTB.out b e).2; omega)
  have K1 : Hid (Below w.heap.size w V1 ∧ S6 V1 w.heap.size (.int .i64 0) (.int .i64 0) (.int .i64 0) (.slice none 0 0) (.slice none 0 0) (.slice none 0 0) ∧ W.heap.size = w.heap.size + 1) := ⟨bw, K0.out.2.1.keep bV, hz⟩
  have HM : Hid ((resM hard ks m1).map Prod.fst = resE hard (inK ks) (tl.map Prod.fst) ∧ (resM hard ks m2).map Prod.fst = resE hard (inK ks) (kl.map Prod.fst)) := ⟨by rw [resM_map, q1], by rw [resM_map, q2]⟩
  clear hV1 aV bV bw sV hb1 K0 o q1 q2 ln1 ln2 CC HW hln hz
  go_wp2_with fail
  rw [← HV1.out]
  refine Calls.mono CP.out ?_
  rintro e0 w2 ⟨rfl, ⟨a3, k3, n3, a4, k4, n4, s2, o2⟩, hb2⟩
  have hs6 : S6 w2 w.heap.size (.int .i64 0) (.int .i64 0) (.int .i64 0) (.slice none 0 0) (.slice none 0 0) (.slice none 0 0) := K1.out.2.1.low hb2 (by have := K1.out.2.2; omega)
  have HB : Hid (Below w.heap.size w w2) := K1.out.1.trans (hb2.mono (by have := K1.out.2.2; omega))
  have HO2 : Hid (StoLV w2 W.heap.size (.slice a3 n3 k3) (.slice a4 n4 k4) (resM hard ks m1) (resM hard ks m2) ∧ w.heap.size < W.heap.size) := ⟨o2, by have := K1.out.2.2; omega⟩
  have z0 := hs6.c0
  have z1 := hs6.c1
  have z2 := hs6.c2
  have z3 := hs6.c3
  have z4 := hs6.c4
  have z5 := hs6.c5
  have zf0 := hs6.fr 0
  have zf1 := hs6.fr 1
  have zf2 := hs6.fr 2
  have zf3 := hs6.fr 3
  have zf4 := hs6.fr 4
  have zf5 := hs6.fr 5
  have y0 := s2.c0
  have y1 := s2.c1
  have y2 := s2.c2
  have y3 := s2.c3
  clear hs6 s2 o2 hb2 K1 CP HV1
  go_wp2_with fail
  refine bodyPost_ret (v := .agg #[.int .i64 0, .int .i64 bu, .int .i64 gu, .slice a3 n3 k3, .slice a4 n4 k4, .slice a n c]) (by simp [results, Tryz.results105, go_sem, z0, z1, z2, z3, z4, z5]) rfl ?_
  have hlt := HO2.out.2
  have hB := (((((HB.out.setCell (p := ⟨w.heap.size, 0, none⟩) (Nat.le_refl _) (.int .i64 0)).setCell (p := ⟨w.heap.size, 1, none⟩) (Nat.le_refl _) (.int .i64 bu)).setCell (p := ⟨w.heap.size, 2, none⟩) (Nat.le_refl _) (.int .i64 gu)).setCell (p := ⟨w.heap.size, 3, none⟩) (Nat.le_refl _) (.slice a3 n3 k3)).setCell (p := ⟨w.heap.size, 4, none⟩) (Nat.le_refl _) (.slice a4 n4 k4)).setCell (p := ⟨w.heap.size, 5, none⟩) (Nat.le_refl _) (.slice a n c)
  have hO := ((((((HO2.out.1.off1 (i := 0) (.int .i64 0) hlt).off1 (i := 1) (.int .i64 bu) hlt).off1 (i := 2) (.int .i64 gu) hlt).off1 (i := 3) (.slice a3 n3 k3) hlt).off1 (i := 4) (.slice a4 n4 k4) hlt).off1 (i := 5) (.slice a n c) hlt)
  have hkw := HL.out.2.2
  exact ⟨PurAns.got hO (by omega) HM.out.1 HM.out.2 (HT.out _ hB) (fun q e => ⟨(HTB.out q e).1, fun hm => by have := hO.t.ge hm; have := (HTB.out q e).2; omega, fun hm => by have := hO.k.ge hm; have := (HTB.out q e).2; omega⟩), hB⟩
end Go.Proofs.YtmidfgjnaebfiaaGreatDoor
