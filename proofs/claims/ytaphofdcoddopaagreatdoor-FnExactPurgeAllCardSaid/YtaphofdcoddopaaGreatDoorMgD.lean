/-
  Texts of one claim, one behind the other.
-/
import Derived.Deep.RegionHeld3
import Derived.Stop.LaidErr
import Derived.Test.YtaphofdcoddopaaGreatDoorMgC
/-
  What DropHeader and its model answer.
-/
namespace Go.Proofs.YtaphofdcoddopaaGreatDoor
open Go.ChangeShapes Go.WideShapes Go.ChangeAt Go.RowKit Go.Sort
/-- A result: a code and head lines in memory of the call's own. -/
def HRes (c : Int) (L : List Hdr) (base : Nat) (e : Ending) (w : World) : Prop := ∃ v, e = .returned (.agg #[.int .i64 c, v]) ∧ OwnH w base v L
theorem HRes.mk {c d : Int} {L M : List Hdr} {base : Nat} {w : World} {v : Value} (h : c = d ∧ L = M) (ho : OwnH w base v M) : HRes c L base (.returned (.agg #[.int .i64 d, v])) w := ⟨v, by rw [h.1], by rw [h.2]; exact ho⟩
theorem ownH_set {w : World} {base b o : Nat} {v u : Value} {l : List Hdr} (h : OwnH w base v l) (hb : b < base) : OwnH (w.setCell ⟨b, o, none⟩ u) base v l := by
  obtain ⟨h1, h2⟩ := h
  refine ⟨h1, ?_⟩
  rcases h2 with h2 | ⟨g, c, cur, e, hg, hh, hrest⟩
  · exact .inl h2
  · exact .inr ⟨g, c, cur, e, hg, by rw [RowKit.Below.heap_setCell _ _ _ _ (by show g ≠ b; omega)]; exact hh, hrest⟩
theorem dropL_bad {l : List Hdr} {name : ByteArray} (h : askC l name ≠ 0) : dropL l name = [] := by unfold dropL; rw [if_neg h]
theorem dropL_ok {l : List Hdr} {name : ByteArray} (h : askC l name = 0) : dropL l name = dropH (lowS name) l := by unfold dropL; rw [if_pos h]
theorem dropL_len (l : List Hdr) (name : ByteArray) : (dropL l name).length ≤ 20 := by
  by_cases h : askC l name = 0
  · rw [dropL_ok h]
    have := (headsC_zero (askC_zero h).1).1
    exact Nat.le_trans (dropH_len _ _) this
  · rw [dropL_bad h]; simp
theorem asked {l : List Hdr} {name : ByteArray} (h : askC l name = 0) : l.length ≤ 20 ∧ (∀ (i : Nat) r, l[i]? = some r → r.name.size ≤ 64 ∧ r.value.size ≤ 200) ∧ name.size ≤ 64 := by
  obtain ⟨h0, hw⟩ := askC_zero h
  obtain ⟨h20, hf⟩ := headsC_zero h0
  exact ⟨h20, fun i r hr => by obtain ⟨x1, x2, _⟩ := faultH_zero (hf i r hr); exact ⟨hword_max x1, x2⟩, hword_max hw⟩
theorem keptH_drop (x : ByteArray) (l : List Hdr) : keptH (fun y => if y = x then none else firstAt y l) l = dropH x l := by
  unfold keptH dropH
  refine List.filter_congr fun r hr => ?_
  by_cases e : lowS r.name = x
  · simp [e]
  · simp only [e, not_false_eq_true, decide_true]
    cases c : firstAt (lowS r.name) l with
    | some i => rfl
    | none => exact absurd rfl (firstAt_none c r hr)
end Go.Proofs.YtaphofdcoddopaaGreatDoor
/-
  Results of head lines: compared, marked, held.
-/
namespace Go.Proofs.YtaphofdcoddopaaGreatDoor
open Go.ChangeShapes Go.WideShapes Go.ChangeAt Go.RowKit Go.Sort
/-- A result in a variable. -/
structure HHRoom (w : World) (b : Nat) (c : Int) (v : Value) : Prop where
  c0 : w.cell? ⟨b, 0, none⟩ = some (.int .i64 c)
  c1 : w.cell? ⟨b, 1, none⟩ = some v
theorem HHRoom.lt {w : World} {b : Nat} {c : Int} {v : Value} (h : HHRoom w b c v) : b < w.heap.size := block_lt_of_cell h.c0
theorem HHRoom.keep {w w' : World} {b : Nat} {c : Int} {v : Value} (h : HHRoom w b c v) (hb : Below w.heap.size w w') : HHRoom w' b c v :=
  ⟨by rw [hb.cell (p := ⟨b, 0, none⟩) h.lt, h.c0], by rw [hb.cell (p := ⟨b, 1, none⟩) h.lt, h.c1]⟩
theorem HHRoom.av {w w' : World} {b : Nat} {c : Int} {v u : Value} (h : HHRoom w b c v) (k : HAV u w w') (hn : u.ownBlock ≠ some b) : HHRoom w' b c v :=
  ⟨by rw [k.cell b 0 h.lt hn, h.c0], by rw [k.cell b 1 h.lt hn, h.c1]⟩
theorem hroom_new (w : World) (c : Int) (a : Option Addr) (n cap : Nat) (t : TypeId) : HHRoom (w.alloc (.cells #[.int .i64 c, .slice a n cap] t)) w.heap.size c (.slice a n cap) := ⟨by simp, by simp⟩
theorem HLV.block_lt {w : World} {v : Value} {l : List Hdr} (h : HLV w v l) : ∀ b, v.ownBlock = some b → b < w.heap.size := by
  rcases h with ⟨rfl, _⟩ | ⟨g, c, rfl, hg, _⟩
  · intro b hb; cases hb
  · intro b hb; simp only [Value.ownBlock, Option.some.injEq] at hb; omega
/-- What a call hands back: head lines in memory of its own. -/
structure HGot (L : List Hdr) (base : Nat) (a : Option Addr) (n cap : Nat) (w : World) : Prop where
  len : n = L.length
  lv : HLV w (.slice a n cap) L
  ge : ∀ b, (Value.slice a n cap).ownBlock = some b → base ≤ b
theorem HRes.got {c : Int} {L : List Hdr} {base : Nat} {e : Ending} {w : World} (h : HRes c L base e w) : ∃ a n cap, e = .returned (.agg #[.int .i64 c, .slice a n cap]) ∧ HGot L base a n cap w := by
  obtain ⟨v, rfl, ho⟩ := h
  obtain ⟨a, c, rfl, _⟩ := ho.at
  exact ⟨a, _, c, rfl, rfl, ho.lv.1, ho.lv.2⟩
structure HMarkedR (w : World) (base : Nat) (a : Option Addr) (n ca : Nat) (w' : World) : Prop where
  lv : HLV w' (.slice a n ca) (mkHL 1 n)
  av : HAV (.slice a n ca) w w'
  low : Below base w w'
/-- Two results in variables, and their lines. -/
structure HKK (w : World) (X1 X2 : Nat) (c : Int) (v1 v2 : Value) (L1 L2 : List Hdr) (W : World) : Prop where
  b : Below w.heap.size w W
  r1 : HHRoom W X1 c v1
  r2 : HHRoom W X2 c v2
  l1 : HLV W v1 L1
  l2 : HLV W v2 L2
theorem HKK.keep {w : World} {X1 X2 : Nat} {c : Int} {v1 v2 : Value} {L1 L2 : List Hdr} {W W' : World} (h : HKK w X1 X2 c v1 v2 L1 L2 W) (hb : Below W.heap.size W W') : HKK w X1 X2 c v1 v2 L1 L2 W' :=
  ⟨h.b.trans (hb.mono h.b.size), h.r1.keep hb, h.r2.keep hb, h.l1.below hb, h.l2.below hb⟩
theorem HKK.av {w : World} {X1 X2 : Nat} {c : Int} {v1 v2 u : Value} {L1 L2 : List Hdr} {W W' : World} (h : HKK w X1 X2 c v1 v2 L1 L2 W) (k : HAV u W W') (hb : Below w.heap.size W W') (h1 : u.ownBlock ≠ some X1) (h2 : u.ownBlock ≠ some X2) (h3 : ∀ b, v1.ownBlock = some b → u.ownBlock ≠ some b) (h4 : ∀ b, v2.ownBlock = some b → u.ownBlock ≠ some b) : HKK w X1 X2 c v1 v2 L1 L2 W' :=
  ⟨h.b.trans hb, h.r1.av k h1, h.r2.av k h2, h.l1.av k h3, h.l2.av k h4⟩
/-- Lines of the law's own, that may be written. -/
structure HMine (W : World) (B : Nat) (l : List Hdr) : Prop where
  at0 : HeadsAt W B 0 l
  free : ∀ o, W.frozen? ⟨B, o, none⟩ = false
  lt : B < W.heap.size
theorem HMine.keep {W W' : World} {B : Nat} {l : List Hdr} (h : HMine W B l) (hb : Below W.heap.size W W') : HMine W' B l :=
  ⟨h.at0.keep hb, fun o => by rw [hb.frozen (p := ⟨B, o, none⟩) h.lt]; exact h.free o, Nat.lt_of_lt_of_le h.lt hb.size⟩
theorem HMine.mark {W : World} {B base : Nat} {l : List Hdr} (h : HMine W B l) (hl : l.length ≤ 1048576) (hb : base ≤ B) : ∃ q : Int, ¬ q < 0 ∧ Calls Tryz.prog 83 #[.slice (some ⟨B, 0, none⟩) l.length l.length, .int .i64 1] W fun e w' => e = .returned (.int .i64 q) ∧ HAV (.slice (some ⟨B, 0, none⟩) l.length l.length) W w' ∧ Below base W w' :=
  ⟨((1 + 2 * l.length : Nat) : Int), by omega, (markHeaderS_lv W (.slice (some ⟨B, 0, none⟩) l.length l.length) l hl (.inr ⟨B, _, rfl, h.lt, h.at0, h.free⟩) base (fun q hq => by simp only [Value.ownBlock, Option.some.injEq] at hq; omega) (by have := h.lt; omega)).mono fun _ _ ⟨h1, _, h3, h4⟩ => ⟨h1, h3, h4⟩⟩
end Go.Proofs.YtaphofdcoddopaaGreatDoor
/-
  Rows of texts as a value: compared, marked, held.
-/
namespace Go.Proofs.YtaphofdcoddopaaGreatDoor
open Go.ChangeShapes Go.WideShapes Go.ChangeAt Go.RowKit Go.Sort
def mkTL (k n : Nat) : List ByteArray := (List.range n).map fun j => mkT (k + j)
theorem mkTL_len (k n : Nat) : (mkTL k n).length = n := by simp [mkTL]
theorem mkTL_get {k n i : Nat} (h : i < n) : (mkTL k n)[i]? = some (mkT (k + i)) := by simp [mkTL, h]
theorem tput {w : World} {g off i : Nat} {L : List ByteArray} {r : ByteArray} (h : TAt w g off L) (hr : L[i]? = some r) (n : ByteArray) : TAt (w.setCell ⟨g, off + i, none⟩ (.string n)) g off (L.set i n) := by
  intro j q hq
  by_cases e : j = i
  · subst e
    have hl := (List.getElem?_eq_some_iff.1 hr).1
    rw [List.getElem?_set_self hl] at hq
    obtain rfl := Option.some.inj hq
    exact hcell_set_same (h j r hr)
  · rw [List.getElem?_set_ne (fun k => e k.symm)] at hq
    rw [hcell_set_off (by omega)]
    exact h j q hq
/-- The state of the marking loop: j texts are marked. -/
structure TMarked (w : World) (g off : Nat) (k n j : Nat) (L : List ByteArray) (W : World) : Prop where
  len : L.length = n
  done : ∀ i, i < j → L[i]? = some (mkT (k + i))
  items : TAt W g off L
  thaw : ∀ o, W.frozen? ⟨g, o, none⟩ = false
  apart : Apart g w W
  low : Below g w W
  lt : g < W.heap.size
theorem TMarked.below {w : World} {g off k n j : Nat} {L : List ByteArray} {W W' : World} (h : TMarked w g off k n j L W) (hb : Below W.heap.size W W') : TMarked w g off k n j L W' :=
  ⟨h.len, h.done, h.items.keep hb, fun o => by rw [hb.frozen (p := ⟨g, o, none⟩) h.lt, h.thaw], h.apart.trans (.below hb), h.low.trans (hb.mono (Nat.le_of_lt h.lt)), Nat.lt_of_lt_of_le h.lt hb.size⟩
theorem TMarked.set {w : World} {g off k n j : Nat} {L : List ByteArray} {W : World} {r : ByteArray} (h : TMarked w g off k n j L W) (hr : L[j]? = some r) : TMarked w g off k n (j + 1) (L.set j (mkT (k + j))) (W.setCell ⟨g, off + j, none⟩ (.string (mkT (k + j)))) := by
  refine ⟨by rw [List.length_set]; exact h.len, fun i hi => ?_, tput h.items hr _, fun o => by rw [World.frozen?_setCell, h.thaw], h.apart.trans (.set _ _ _ _), h.low.setCell (Nat.le_refl _) _, by simpa using h.lt⟩
  by_cases e : i = j
  · subst e; exact List.getElem?_set_self (List.getElem?_eq_some_iff.1 hr).1
  · rw [List.getElem?_set_ne (fun k => e k.symm)]; exact h.done i (by omega)
set_option maxRecDepth 100000 in
set_option maxHeartbeats 4000000 in
theorem markStringS_any (w : World) (g off cap n k : Nat) (l : List ByteArray) (hn : l.length = n) (hn2 : n ≤ 1048576) (hk0 : 1 ≤ k) (hk1 : k ≤ 100000000000000) (hi : TAt w g off l) (hf : ∀ o, w.frozen? ⟨g, o, none⟩ = false) (hg : g < w.heap.size) :
    Calls Tryz.prog 85 #[.slice (some ⟨g, off, none⟩) n cap, .int .i64 (k : Int)] w fun e w' => e = .returned (.int .i64 ((k + n : Nat) : Int)) ∧ TAt w' g off (mkTL k n) ∧ Apart g w w' ∧ Below g w w' ∧ ∀ o, w'.frozen? ⟨g, o, none⟩ = false := by
  have HST : Hid (TMarked w g off k n 0 l w) := ⟨hn, fun i h => by omega, hi, hf, .refl _ _, Below.refl _ _, hg⟩
  clear hi hf hg hn
  go_enter Tryz.func85, Tryz.ntmps85
  go_wp2_with fail
  go_loopw [1, 5] (fun x i wr => ∃ (j : Nat) (L : List ByteArray), j ≤ n ∧ i = .int .i64 (j : Int) ∧ x = .int .i64 ((k + j : Nat) : Int) ∧ TMarked w g off k n j L wr) (fun _ i _ => n - (intOf i).toNat)
  case atStart => exact ⟨0, l, Nat.zero_le _, rfl, rfl, HST.out⟩
  case round =>
    obtain ⟨j, L, hj, rfl, rfl, hm⟩ := hrel
    have HM : Hid (TMarked w g off k n j L wr) := hm
    clear hm HST
    by_cases hlt : j < n
    · obtain ⟨r, hr⟩ : ∃ r, L[j]? = some r := ⟨L[j]'(by have := HM.out.len; omega), List.getElem?_eq_getElem _⟩
      have HR : Hid (L[j]? = some r) := hr
      clear hr
      have g0 : (0 : Int) ≤ j := by omega
      have g1 : (j : Int) < n := by omega
      have HT1 : Hid (∀ w, Calls Tryz.prog 101 #[.int .i64 ((k + j : Nat) : Int)] w fun e w' => e = .returned (.string (mkT (k + j))) ∧ Below w.heap.size w w') := markText_any (k + j) (by omega) (by omega)
      go_wp2_with fail
      refine (HT1.out _).mono ?_
      rintro e w1 ⟨rfl, hb1⟩
      have HM1 : Hid (TMarked w g off k n j L w1) := HM.out.below hb1
      clear hb1 HM
      have p1 := HM1.out.items j r HR.out
      have f1 := HM1.out.thaw (off + j)
      have HM7 : Hid (TMarked w g off k n (j + 1) (L.set j (mkT (k + j))) (w1.setCell ⟨g, off + j, none⟩ (.string (mkT (k + j))))) := HM1.out.set HR.out
      clear HM1
      go_wp2_with fail
      go_roundw
      case rel => exact ⟨j + 1, _, by omega, by go_num, by congr 1, HM7.out⟩
      case measure => simp [intOf]; omega
    · obtain rfl : j = n := by omega
      have HX : Hid (TAt wr g off (mkTL k j)) := by
        have e : L = mkTL k j := by
          apply List.ext_getElem?
          intro i
          by_cases hi : i < j
          · rw [HM.out.done i hi, mkTL_get hi]
          · rw [List.getElem?_eq_none (by have := HM.out.len; omega), List.getElem?_eq_none (by rw [mkTL_len]; omega)]
        show TAt _ _ _ _
        rw [← e]
        exact HM.out.items
      go_wp2_with fail
      go_ret
      exact ⟨rfl, HX.out, HM.out.apart, HM.out.low, HM.out.thaw⟩
set_option maxRecDepth 100000 in
set_option maxHeartbeats 4000000 in
theorem heldStringS_any (w : World) (g off cap n k : Nat) (hn2 : n ≤ 1048576) (hk0 : 1 ≤ k) (hk1 : k ≤ 100000000000000) (hi : TAt w g off (mkTL k n)) :
    Calls Tryz.prog 86 #[.slice (some ⟨g, off, none⟩) n cap, .int .i64 (k : Int)] w fun e w' => e = .returned (.int .i64 ((k + n : Nat) : Int)) ∧ Below w.heap.size w w' := by
  have HI : Hid (TAt w g off (mkTL k n)) := hi
  clear hi
  go_enter Tryz.func86, Tryz.ntmps86
  go_wp2_with fail
  go_loopw [1, 5] (fun x i wr => ∃ (j : Nat), j ≤ n ∧ i = .int .i64 (j : Int) ∧ x = .int .i64 ((k + j : Nat) : Int) ∧ Below w.heap.size w wr) (fun _ i _ => n - (intOf i).toNat)
  case atStart => exact ⟨0, Nat.zero_le _, rfl, rfl, Below.refl _ _⟩
  case round =>
    obtain ⟨j, hj, rfl, rfl, hb⟩ := hrel
    have KB : Hid (Below w.heap.size w wr) := hb
    clear hb
    by_cases hlt : j < n
    · have q1 := (HI.out.keep KB.out) j _ (mkTL_get hlt)
      have g0 : (0 : Int) ≤ j := by omega
      have g1 : (j : Int) < n := by omega
      have HT1 : Hid (∀ w, Calls Tryz.prog 101 #[.int .i64 ((k : Int) + j)] w fun e w' => e = .returned (.string (mkT (k + j))) ∧ Below w.heap.size w w') := by
        have := markText_any (k + j) (by omega) (by omega)
        rw [show ((k + j : Nat) : Int) = (k : Int) + j by omega] at this
        exact this
      generalize mkT (k + j) = t1 at *
      have x1 := cell_regrown q1
      clear q1
      have cE : ∀ d os, Calls Tryz.prog 101 #[.int .i64 ((k : Int) + j)] (grow (redrawn wr d) os) fun e w'' => e = .returned (.string t1) ∧ ∃ p : Regrown, w'' = grow (redrawn wr p.d) p.os := fun d os => Calls.regrown_of (HT1.out _)
      go_wp2_with fail
      refine wp_region_quiet_below (by kernel_rfl) (by kernel_rfl) ?_
      repeat (go_big_quiet_step ((go_at_call 101; exact cE _ _)))
      refine wpQuiet_nil ?_
      intro w3 hw3
      have KB3 : Hid (Below w.heap.size w w3) := by
        obtain ⟨⟨d, os⟩, rfl⟩ := hw3
        exact KB.out.trans ((below_regrown wr d os).mono KB.out.size)
      clear x1 cE hw3 KB
      go_wp2_with fail
      go_roundw
      case rel => exact ⟨j + 1, by omega, by go_num, by congr 1, KB3.out⟩
      case measure => simp [intOf]; omega
    · obtain rfl : j = n := by omega
      go_wp2_with fail
      go_ret
      exact ⟨rfl, KB.out⟩
def TLV (w : World) (v : Value) (l : List ByteArray) : Prop :=
  (v = .slice none 0 0 ∧ l = []) ∨ ∃ g cap, v = .slice (some ⟨g, 0, none⟩) l.length cap ∧ g < w.heap.size ∧ TAt w g 0 l ∧ ∀ o, w.frozen? ⟨g, o, none⟩ = false
theorem OwnS.lv {w : World} {base : Nat} {v : Value} {l : List ByteArray} (h : OwnS w base v l) : TLV w v l ∧ ∀ b, v.ownBlock = some b → base ≤ b := by
  have h0 := h
  obtain ⟨_, h1 | ⟨g, c, cur, rfl, hg, hh, _⟩⟩ := h
  · have e : l = [] := List.eq_nil_of_length_eq_zero h1.2
    exact ⟨.inl ⟨h1.1, e⟩, fun b hb => by rw [h1.1] at hb; cases hb⟩
  · refine ⟨.inr ⟨g, c, rfl, (Array.getElem?_eq_some_iff.1 hh).1, fun i x hx => ?_, fun o => ?_⟩, fun b hb => ?_⟩
    · have hk := (List.getElem?_eq_some_iff.1 hx).1
      have := World.ownsRow.cellAt h0 i (by omega)
      rw [Nat.zero_add, this]
      simp [textsW, hx]
    · simp [World.frozen?, hh]
    · simp only [Value.ownBlock, Option.some.injEq] at hb; omega
theorem TLV.below {w w' : World} {v : Value} {l : List ByteArray} (h : TLV w v l) (hb : Below w.heap.size w w') : TLV w' v l := by
  rcases h with h | ⟨g, c, e, hg, hi, hf⟩
  · exact .inl h
  · exact .inr ⟨g, c, e, Nat.lt_of_lt_of_le hg hb.size, hi.keep hb, fun o => by rw [hb.frozen (p := ⟨g, o, none⟩) hg, hf]⟩
theorem TLV.av {w w' : World} {v v1 : Value} {l : List ByteArray} (h : TLV w v1 l) (k : HAV v w w') (hne : ∀ b, v1.ownBlock = some b → v.ownBlock ≠ some b) : TLV w' v1 l := by
  rcases h with h | ⟨g, c, rfl, hg, hi, hf⟩
  · exact .inl h
  · have hn := hne g rfl
    exact .inr ⟨g, c, rfl, Nat.lt_of_lt_of_le hg k.size, fun i r hr => by rw [k.cell g _ hg hn]; exact hi i r hr, fun o => by rw [k.frozen g o hg hn, hf]⟩
theorem TLV.tin {w : World} {v : Value} {l : List ByteArray} (h : TLV w v l) : ∃ a c, v = .slice a l.length c ∧ TIn w a l := by
  rcases h with ⟨rfl, rfl⟩ | ⟨g, c, rfl, _, hi, _⟩
  · exact ⟨none, 0, rfl, .inl rfl⟩
  · exact ⟨_, c, rfl, .inr ⟨g, 0, rfl, hi⟩⟩
theorem eqStringS_lv (w : World) (v1 v2 : Value) (l : List ByteArray) (hl : l.length ≤ 1048576) (h1 : TLV w v1 l) (h2 : TLV w v2 l) :
    Calls Tryz.prog 79 #[v1, v2] w fun e w' => e = .returned (.bool true) ∧ Below w.heap.size w w' := by
  obtain ⟨a1, c1, rfl, t1⟩ := h1.tin
  obtain ⟨a2, c2, rfl, t2⟩ := h2.tin
  exact eqStringS_same w a1 a2 c1 c2 l hl t1 t2
set_option maxHeartbeats 1000000 in
theorem markStringS_nil (w : World) (a : Option Addr) (c k : Nat) :
    Calls Tryz.prog 85 #[.slice a 0 c, .int .i64 (k : Int)] w fun e w' => e = .returned (.int .i64 (k : Int)) ∧ Below w.heap.size w w' := by
  go_enter Tryz.func85, Tryz.ntmps85
  go_wp2_with fail
  go_loop [1, 5] (fun x i => x = .int .i64 (k : Int) ∧ i = .int .i64 0) (fun _ _ => 0)
  case atStart => exact ⟨rfl, rfl⟩
  case round =>
    obtain ⟨rfl, rfl⟩ := hrel
    go_wp2_with fail
    go_ret
    exact ⟨rfl, Below.refl _ _⟩
set_option maxHeartbeats 1000000 in
theorem heldStringS_nil (w : World) (a : Option Addr) (c k : Nat) :
    Calls Tryz.prog 86 #[.slice a 0 c, .int .i64 (k : Int)] w fun e w' => e = .returned (.int .i64 (k : Int)) ∧ Below w.heap.size w w' := by
  go_enter Tryz.func86, Tryz.ntmps86
  go_wp2_with fail
  go_loop [1, 5] (fun x i => x = .int .i64 (k : Int) ∧ i = .int .i64 0) (fun _ _ => 0)
  case atStart => exact ⟨rfl, rfl⟩
  case round =>
    obtain ⟨rfl, rfl⟩ := hrel
    go_wp2_with fail
    go_ret
    exact ⟨rfl, Below.refl _ _⟩
theorem markStringS_lv (w : World) (v : Value) (l : List ByteArray) (hl : l.length ≤ 1048576) (h : TLV w v l) (base : Nat) (hb : ∀ b, v.ownBlock = some b → base ≤ b) (hbs : base ≤ w.heap.size) :
    Calls Tryz.prog 85 #[v, .int .i64 1] w fun e w' => e = .returned (.int .i64 ((1 + l.length : Nat) : Int)) ∧ TLV w' v (mkTL 1 l.length) ∧ HAV v w w' ∧ Below base w w' := by
  rcases h with ⟨rfl, rfl⟩ | ⟨g, c, rfl, hg, hi, hf⟩
  · exact (markStringS_nil w none 0 1).mono fun _ _ ⟨h1, h2⟩ => ⟨h1, .inl ⟨rfl, rfl⟩, .below h2, h2.mono hbs⟩
  · refine (markStringS_any w g 0 c l.length 1 l rfl hl (by omega) (by omega) hi hf hg).mono ?_
    rintro e w' ⟨h1, h2, h3, h4, h5⟩
    have hne : ∀ b, (Value.slice (some ⟨g, 0, none⟩) l.length c).ownBlock ≠ some b → b ≠ g := fun b hb e => hb (by subst e; rfl)
    refine ⟨h1, ?_, ⟨h3.size, fun b o hb hn => h3.cell b o hb (hne b hn), fun b o hb hn => h3.frozen b o hb (hne b hn)⟩, h4.mono (hb g rfl)⟩
    exact .inr ⟨g, c, by rw [mkTL_len], Nat.lt_of_lt_of_le hg h3.size, h2, h5⟩
theorem heldStringS_lv (w : World) (v : Value) (n : Nat) (hl : n ≤ 1048576) (h : TLV w v (mkTL 1 n)) :
    Calls Tryz.prog 86 #[v, .int .i64 1] w fun e w' => e = .returned (.int .i64 ((1 + n : Nat) : Int)) ∧ Below w.heap.size w w' := by
  rcases h with ⟨rfl, h0⟩ | ⟨g, c, rfl, _, hi, _⟩
  · have e := congrArg List.length h0
    rw [mkTL_len] at e
    simp at e
    subst e
    exact heldStringS_nil w none 0 1
  · rw [mkTL_len]
    exact heldStringS_any w g 0 c n 1 hl (by omega) (by omega) hi
theorem TLV.block_lt {w : World} {v : Value} {l : List ByteArray} (h : TLV w v l) : ∀ b, v.ownBlock = some b → b < w.heap.size := by
  rcases h with ⟨rfl, _⟩ | ⟨g, c, rfl, hg, _⟩
  · intro b hb; cases hb
  · intro b hb; simp only [Value.ownBlock, Option.some.injEq] at hb; omega
/-- What a call hands back: texts in memory of its own. -/
structure TGot (L : List ByteArray) (base : Nat) (a : Option Addr) (n cap : Nat) (w : World) : Prop where
  len : n = L.length
  lv : TLV w (.slice a n cap) L
  ge : ∀ b, (Value.slice a n cap).ownBlock = some b → base ≤ b
def TRes (c : Int) (L : List ByteArray) (base : Nat) (e : Ending) (w : World) : Prop := ∃ v, e = .returned (.agg #[.int .i64 c, v]) ∧ OwnS w base v L
theorem TRes.got {c : Int} {L : List ByteArray} {base : Nat} {e : Ending} {w : World} (h : TRes c L base e w) : ∃ a n cap, e = .returned (.agg #[.int .i64 c, .slice a n cap]) ∧ TGot L base a n cap w := by
  obtain ⟨v, rfl, ho⟩ := h
  obtain ⟨a, c, rfl, _⟩ := ho.lv.1.tin
  exact ⟨a, _, c, rfl, rfl, ho.lv.1, ho.lv.2⟩
set_option maxHeartbeats 1000000 in
theorem eqNamesResult_lv (w : World) (c : Int) (a b : Option Addr) (n m ca cb : Nat) (l : List ByteArray) (hl : l.length ≤ 1048576) (h1 : TLV w (.slice a n ca) l) (h2 : TLV w (.slice b m cb) l) :
    Calls Tryz.prog 35 #[.agg #[.int .i64 c, .slice a n ca], .agg #[.int .i64 c, .slice b m cb]] w fun e w' => e = .returned (.bool true) ∧ Below w.heap.size w w' := by
  have HE : Hid (∀ W, Below w.heap.size w W → Calls Tryz.prog 79 #[.slice a n ca, .slice b m cb] W fun e w' => e = .returned (.bool true) ∧ Below W.heap.size W w') := fun W hb => eqStringS_lv W _ _ l hl (h1.below hb) (h2.below hb)
  clear h1 h2 hl
  go_enter Tryz.func35, Tryz.ntmps35
  go_wp2_with fail
  refine (HE.out _ (((Below.refl _ _).alloc (Nat.le_refl _) _).alloc (by simp) _)).mono ?_
  rintro e w1 ⟨rfl, hb⟩
  have KB : Hid (Below w.heap.size w w1) := (((Below.refl w.heap.size w).alloc (Nat.le_refl _) _).alloc (by simp) _).trans (hb.mono (by simp; omega))
  clear hb HE
  go_wp2_with fail
  go_ret
  exact ⟨rfl, KB.out⟩
structure TMarkedR (w : World) (base : Nat) (a : Option Addr) (n ca : Nat) (w' : World) : Prop where
  lv : TLV w' (.slice a n ca) (mkTL 1 n)
  av : HAV (.slice a n ca) w w'
  low : Below base w w'
set_option maxRecDepth 100000 in
set_option maxHeartbeats 1000000 in
theorem markNamesResult_lv (w : World) (c : Int) (a : Option Addr) (n ca : Nat) (l : List ByteArray) (hn : n = l.length) (hl : l.length ≤ 1000) (h : TLV w (.slice a n ca) l) (base : Nat) (hb : ∀ b, (Value.slice a n ca).ownBlock = some b → base ≤ b) (hbs : base ≤ w.heap.size) :
    Calls Tryz.prog 36 #[.agg #[.int .i64 c, .slice a n ca], .int .i64 1] w fun e w' => e = .returned (.int .i64 ((1 + n : Nat) : Int)) ∧ TMarkedR w base a n ca w' := by
  have HE : Hid (Calls Tryz.prog 85 #[.slice a n ca, .int .i64 1] (w.alloc (.cells #[.int .i64 c, .slice a n ca] 62)) fun e w' => e = .returned (.int .i64 ((1 + n : Nat) : Int)) ∧ TMarkedR w base a n ca w') := by
    have := markStringS_lv (w.alloc (.cells #[.int .i64 c, .slice a n ca] 62)) (.slice a n ca) l (by omega) (h.below ((Below.refl _ _).alloc (Nat.le_refl _) _)) base hb (by simp; omega)
    rw [← hn] at this
    refine this.mono ?_
    intro e w1 ⟨he, hlv, hav, hbb⟩
    refine ⟨he, hlv, ⟨by have := hav.size; simp at this; omega, fun b o h1 h2 => ?_, fun b o h1 h2 => ?_⟩, ((Below.refl base w).alloc hbs _).trans hbb⟩
    · rw [hav.cell b o (by simp; omega) h2]
      exact ((Below.refl w.heap.size w).alloc (Nat.le_refl _) _).cell (p := ⟨b, o, none⟩) h1
    · rw [hav.frozen b o (by simp; omega) h2]
      exact ((Below.refl w.heap.size w).alloc (Nat.le_refl _) _).frozen (p := ⟨b, o, none⟩) h1
  clear h hl hb
  obtain ⟨q, hq⟩ : ∃ q, Hid (((1 + n : Nat) : Int) = q) := ⟨_, rfl⟩
  rw [hq.out] at HE
  rw [hq.out]
  clear hq hn hbs
  go_enter Tryz.func36, Tryz.ntmps36
  go_wp2_with fail
  refine HE.out.mono ?_
  rintro e w1 ⟨rfl, hk⟩
  have K : Hid (TMarkedR w base a n ca w1) := hk
  clear hk HE
  go_wp2_with fail
  go_ret
  exact ⟨rfl, K.out⟩
set_option maxHeartbeats 1000000 in
theorem heldNamesResult_lv (w : World) (c : Int) (a : Option Addr) (n ca : Nat) (hl : n ≤ 1000) (h : TLV w (.slice a n ca) (mkTL 1 n)) :
    Calls Tryz.prog 37 #[.agg #[.int .i64 c, .slice a n ca], .int .i64 1] w fun e w' => e = .returned (.int .i64 ((1 + n : Nat) : Int)) ∧ Below w.heap.size w w' := by
  have HE := heldStringS_lv (w.alloc (.cells #[.int .i64 c, .slice a n ca] 62)) (.slice a n ca) n (by omega) (h.below ((Below.refl _ _).alloc (Nat.le_refl _) _))
  clear h
  have g : ¬ ((1 + n : Nat) : Int) < 0 := by omega
  generalize ((1 + n : Nat) : Int) = q at *
  go_enter Tryz.func37, Tryz.ntmps37
  go_wp2_with fail
  refine HE.mono ?_
  rintro e w1 ⟨rfl, hb⟩
  have KB : Hid (Below w.heap.size w w1) := ((Below.refl _ _).alloc (Nat.le_refl _) _).trans (hb.mono (by simp))
  clear hb HE
  go_wp2_with fail
  go_ret
  exact ⟨rfl, KB.out⟩
/-- Two results in variables, and their lines. -/
structure TKK (w : World) (X1 X2 : Nat) (c : Int) (v1 v2 : Value) (L1 L2 : List ByteArray) (W : World) : Prop where
  b : Below w.heap.size w W
  r1 : HHRoom W X1 c v1
  r2 : HHRoom W X2 c v2
  l1 : TLV W v1 L1
  l2 : TLV W v2 L2
theorem TKK.keep {w : World} {X1 X2 : Nat} {c : Int} {v1 v2 : Value} {L1 L2 : List ByteArray} {W W' : World} (h : TKK w X1 X2 c v1 v2 L1 L2 W) (hb : Below W.heap.size W W') : TKK w X1 X2 c v1 v2 L1 L2 W' :=
  ⟨h.b.trans (hb.mono h.b.size), h.r1.keep hb, h.r2.keep hb, h.l1.below hb, h.l2.below hb⟩
theorem TKK.av {w : World} {X1 X2 : Nat} {c : Int} {v1 v2 u : Value} {L1 L2 : List ByteArray} {W W' : World} (h : TKK w X1 X2 c v1 v2 L1 L2 W) (k : HAV u W W') (hb : Below w.heap.size W W') (h1 : u.ownBlock ≠ some X1) (h2 : u.ownBlock ≠ some X2) (h3 : ∀ b, v1.ownBlock = some b → u.ownBlock ≠ some b) (h4 : ∀ b, v2.ownBlock = some b → u.ownBlock ≠ some b) : TKK w X1 X2 c v1 v2 L1 L2 W' :=
  ⟨h.b.trans hb, h.r1.av k h1, h.r2.av k h2, h.l1.av k h3, h.l2.av k h4⟩
end Go.Proofs.YtaphofdcoddopaaGreatDoor
/-
  Results that hold bytes: owned, compared, marked, held.
-/
namespace Go.Proofs.YtaphofdcoddopaaGreatDoor
open Go.ChangeShapes Go.WideShapes Go.ChangeAt Go.RowKit
structure Two (W : World) (B : Nat) (v0 v1 : Value) : Prop where
  c0 : W.cell? ⟨B, 0, none⟩ = some v0
  c1 : W.cell? ⟨B, 1, none⟩ = some v1
  fr : ∀ o, W.frozen? ⟨B, o, none⟩ = false
  lt : B < W.heap.size
theorem Two.keep {W W' : World} {B : Nat} {v0 v1 : Value} (h : Two W B v0 v1) (hb : Below W.heap.size W W') : Two W' B v0 v1 :=
  ⟨by rw [hb.cell (p := ⟨B, 0, none⟩) h.lt]; exact h.c0, by rw [hb.cell (p := ⟨B, 1, none⟩) h.lt]; exact h.c1, fun o => by rw [hb.frozen (p := ⟨B, o, none⟩) h.lt]; exact h.fr o, Nat.lt_of_lt_of_le h.lt hb.size⟩
theorem Two.new (W : World) (v0 v1 : Value) (t : TypeId) : Two (W.alloc (.cells #[v0, v1] t)) W.heap.size v0 v1 :=
  ⟨by rw [World.cell?_alloc_mark]; rfl, by rw [World.cell?_alloc_mark]; rfl, fun o => by have e := heap_alloc_new W (.cells #[v0, v1] t); unfold World.frozen?; rw [e]; simp, by simp⟩
/-- v holds the bytes l in a row of its own, from block base on; or it is nil and there are none. -/
def BOwn (w : World) (base : Nat) (v : Value) (l : List UInt8) : Prop := (v = .slice none 0 0 ∧ l = []) ∨ ∃ g k, v = .slice (some ⟨g, 0, none⟩) l.length k ∧ base ≤ g ∧ BMine w g l
theorem BOwn.keep {w w' : World} {base : Nat} {v : Value} {l : List UInt8} (h : BOwn w base v l) (hb : Below w.heap.size w w') : BOwn w' base v l := by
  rcases h with h | ⟨g, k, e, hg, hm⟩
  · exact .inl h
  · exact .inr ⟨g, k, e, hg, hm.keep hb⟩
theorem BOwn.lower {w : World} {b0 base : Nat} {v : Value} {l : List UInt8} (h : BOwn w base v l) (hb : b0 ≤ base) : BOwn w b0 v l := by
  rcases h with h | ⟨g, k, e, hg, hm⟩
  · exact .inl h
  · exact .inr ⟨g, k, e, Nat.le_trans hb hg, hm⟩
theorem BOwn.shape {w : World} {base : Nat} {v : Value} {l : List UInt8} (h : BOwn w base v l) : ∃ a k, v = .slice a l.length k ∧ BIn w a l := by
  rcases h with ⟨rfl, rfl⟩ | ⟨g, k, rfl, hg, hm⟩
  · exact ⟨none, 0, rfl, .inl rfl⟩
  · exact ⟨_, _, rfl, hm.in⟩
theorem BOwn.block {w : World} {base : Nat} {v : Value} {l : List UInt8} (h : BOwn w base v l) : ∀ b, v.ownBlock = some b → base ≤ b ∧ b < w.heap.size := by
  rcases h with ⟨rfl, _⟩ | ⟨g, k, rfl, hg, hm⟩
  · intro b hb; cases hb
  · intro b hb; simp only [Value.ownBlock, Option.some.injEq] at hb; subst hb; exact ⟨hg, hm.lt⟩
/-- What a call hands back: a code, and bytes of its own. -/
def BGot (c : Int) (l : List UInt8) (base : Nat) (e : Ending) (w : World) : Prop := ∃ a n k, e = .returned (.agg #[.int .i64 c, .slice a n k]) ∧ BOwn w base (.slice a n k) l
theorem BGot.nil (c : Int) (base : Nat) (w : World) : BGot c [] base (.returned (.agg #[.int .i64 c, .slice none 0 0])) w := ⟨none, 0, 0, rfl, .inl ⟨rfl, rfl⟩⟩
/-- A text turned into bytes. -/
theorem bytes_of_text (w : World) (s : ByteArray) : ∃ C cap, (convert 9 41 (.string s)).run Tryz.prog w = .ok (.slice (some ⟨w.heap.size, 0, none⟩) s.size cap) (w.drew.alloc (.cells C 5 (C.size, C.size + 1))) ∧ BMine (w.drew.alloc (.cells C 5 (C.size, C.size + 1))) w.heap.size s.data.toList := by
  have h1 := run_bytes_of_string (P := Tryz.prog) w 9 41 5 s Tryz.underlying9 Tryz.underlying41 Tryz.underlying5
  have h2 := fun cap => BRow.made w s cap _ rfl
  refine ⟨_, _, h1, ?_⟩
  have h3 := h2 (grownCap w s.size 0 5)
  refine ⟨fun i c hc => ?_, fun o ho => ?_, ?_⟩
  · obtain ⟨hi, rfl⟩ := List.getElem?_eq_some_iff.1 hc
    rw [Nat.zero_add]
    exact h3.cell i hi
  · exact h3.free o ho
  · show w.heap.size < (w.drew.heap.push _).size
    rw [Array.size_push]; exact Nat.lt_succ_self _
end Go.Proofs.YtaphofdcoddopaaGreatDoor
/-
  Results that hold bytes: compared, marked, held.
-/
namespace Go.Proofs.YtaphofdcoddopaaGreatDoor
open Go.ChangeShapes Go.WideShapes Go.ChangeAt Go.RowKit Go.Sort
/-- All that was there, but for the memory of v, is as it was. -/
structure BAV (v : Value) (w w' : World) : Prop where
  size : w'.heap.size = w.heap.size
  cell : ∀ b o, b < w.heap.size → v.ownBlock ≠ some b → w'.cell? ⟨b, o, none⟩ = w.cell? ⟨b, o, none⟩
  frozen : ∀ b o, w'.frozen? ⟨b, o, none⟩ = w.frozen? ⟨b, o, none⟩
/-- v holds the marks from k on. -/
def MarkB (w : World) (v : Value) (k n : Nat) : Prop := n = 0 ∨ ∃ g c, v = .slice (some ⟨g, 0, none⟩) n c ∧ g < w.heap.size ∧ ∀ i, i < n → w.cell? ⟨g, i, none⟩ = some (.int .u8 (((k + i : Nat) : Int) % 256))
theorem MarkB.keep {w w' : World} {v : Value} {k n : Nat} (h : MarkB w v k n) (hb : Below w.heap.size w w') : MarkB w' v k n := by
  rcases h with h | ⟨g, c, e, hg, hc⟩
  · exact .inl h
  · exact .inr ⟨g, c, e, Nat.lt_of_lt_of_le hg hb.size, fun i hi => by rw [hb.cell (p := ⟨g, i, none⟩) hg]; exact hc i hi⟩
theorem MarkB.av {w w' : World} {v u : Value} {k n : Nat} (h : MarkB w v k n) (ha : BAV u w w') (hne : ∀ b, v.ownBlock = some b → u.ownBlock ≠ some b) : MarkB w' v k n := by
  rcases h with h | ⟨g, c, rfl, hg, hc⟩
  · exact .inl h
  · exact .inr ⟨g, c, rfl, by rw [ha.size]; exact hg, fun i hi => by rw [ha.cell g i hg (hne g rfl)]; exact hc i hi⟩
set_option maxHeartbeats 2000000 in
theorem markByteS_row (W : World) (g n cap k base : Nat) (hn : n ≤ 1048576) (hk : k ≤ 100000000000000) (hbase : base ≤ g) (hg : g < W.heap.size) (hm : HRoom W g n) :
    Calls Tryz.prog 84 #[.slice (some ⟨g, 0, none⟩) n cap, .int .i64 (k : Int)] W fun e w' => e = .returned (.int .i64 ((k + n : Nat) : Int)) ∧ (MarkB w' (.slice (some ⟨g, 0, none⟩) n cap) k n ∧ BAV (.slice (some ⟨g, 0, none⟩) n cap) W w' ∧ Below base W w') := by
  have HM : Hid (HRoom W g n) := hm
  clear hm
  go_enter Tryz.func84, Tryz.ntmps84
  go_wp2_with fail
  go_loopw [1, 5] (fun x i wr => ∃ j : Nat, j ≤ n ∧ i = .int .i64 (j : Int) ∧ x = .int .i64 ((k + j : Nat) : Int) ∧ HRoom wr g n ∧ (∀ q, q < j → wr.cell? ⟨g, q, none⟩ = some (.int .u8 (((k + q : Nat) : Int) % 256))) ∧ BAV (.slice (some ⟨g, 0, none⟩) n cap) W wr ∧ Below base W wr) (fun _ i _ => n - (intOf i).toNat)
  case atStart => exact ⟨0, Nat.zero_le _, rfl, rfl, HM.out, fun q hq => absurd hq (by omega), ⟨rfl, fun _ _ _ _ => rfl, fun _ _ => rfl⟩, Below.refl _ _⟩
  case round =>
    obtain ⟨j, hj, rfl, rfl, hroom, hcells, hav, hb⟩ := hrel
    clear HM
    by_cases hlt : j < n
    · obtain ⟨⟨u, hu⟩, hf⟩ := hroom j hlt
      have H1 : Hid (HRoom wr g n ∧ (∀ q, q < j → wr.cell? ⟨g, q, none⟩ = some (.int .u8 (((k + q : Nat) : Int) % 256))) ∧ BAV (.slice (some ⟨g, 0, none⟩) n cap) W wr ∧ Below base W wr) := ⟨hroom, hcells, hav, hb⟩
      have hw : IntKind.i64.wrap ((k + j : Nat) + 1 : Int) = ((k + (j + 1) : Nat) : Int) := by
        rw [show (((k + j : Nat) : Int) + 1) = ((k + (j + 1) : Nat) : Int) from by omega]
        unfold IntKind.wrap; simp [IntKind.signed, IntKind.bits]; omega
      have g1 : (j : Int) < n := by omega
      have HJ : Hid (((k + (j + 1) : Nat) : Int) = ((k + (j + 1) : Nat) : Int)) := rfl
      clear hroom hcells hav hb
      obtain ⟨K, hK⟩ : ∃ K : Int, K = ((k + j : Nat) : Int) := ⟨_, rfl⟩
      have HK : Hid (K = ((k + j : Nat) : Int)) := hK
      rw [← hK] at hw ⊢
      clear hK
      go_wp2_with fail
      refine ⟨⟨j + 1, by omega, by congr 1, by congr 1, ?_⟩, by simp [intOf]; omega⟩
      obtain ⟨hroom, hcells, hav, hb⟩ := H1.out
      rw [HK.out]
      refine ⟨hroom.set _ _, fun q hq => ?_, ⟨by simpa using hav.size, fun b o hb0 hne => ?_, fun b o => by rw [World.frozen?_setCell]; exact hav.frozen b o⟩, hb.setCell hbase _⟩
      · by_cases e : q = j
        · subst e; exact World.cell?_setCell_same _ _ _ hu
        · rw [World.cell?_setCell_other _ _ _ _ (hoff_ne (by omega))]; exact hcells q (by omega)
      · have hbg : b ≠ g := fun e => hne (by subst e; rfl)
        rw [World.cell?_setCell_other _ _ _ _ (fun e => hbg (congrArg Addr.block e).symm)]
        exact hav.cell b o hb0 hne
    · have ej : j = n := by omega
      subst ej
      have HF : Hid (MarkB wr (.slice (some ⟨g, 0, none⟩) j cap) k j ∧ BAV (.slice (some ⟨g, 0, none⟩) j cap) W wr ∧ Below base W wr) := ⟨.inr ⟨g, cap, rfl, by rw [hav.size]; exact hg, hcells⟩, hav, hb⟩
      clear hcells hav hb hroom
      obtain ⟨K, hK⟩ : ∃ K : Int, K = ((k + j : Nat) : Int) := ⟨_, rfl⟩
      have HK : Hid (K = ((k + j : Nat) : Int)) := hK
      rw [← hK]
      clear hK
      go_wp2_with fail
      go_ret
      exact ⟨ret_int (by rw [HK.out]), HF.out⟩
set_option maxHeartbeats 2000000 in
theorem heldByteS_row (W : World) (g n cap k : Nat) (hn : n ≤ 1048576) (hk : k ≤ 100000000000000) (hc : ∀ i, i < n → W.cell? ⟨g, i, none⟩ = some (.int .u8 (((k + i : Nat) : Int) % 256))) :
    Calls Tryz.prog 136 #[.slice (some ⟨g, 0, none⟩) n cap, .int .i64 (k : Int)] W fun e w' => e = .returned (.int .i64 ((k + n : Nat) : Int)) ∧ w' = W := by
  have HC : Hid (∀ i, i < n → W.cell? ⟨g, i, none⟩ = some (.int .u8 (((k + i : Nat) : Int) % 256))) := hc
  clear hc
  go_enter Tryz.func136, Tryz.ntmps136
  go_wp2_with fail
  go_loop [1, 5] (fun x i => ∃ j : Nat, j ≤ n ∧ i = .int .i64 (j : Int) ∧ x = .int .i64 ((k + j : Nat) : Int)) (fun _ i => n - (intOf i).toNat)
  case atStart => exact ⟨0, Nat.zero_le _, rfl, rfl⟩
  case round =>
    obtain ⟨j, hj, rfl, rfl⟩ := hrel
    by_cases hlt : j < n
    · have hu := HC.out j hlt
      have hw : IntKind.i64.wrap ((k + j : Nat) + 1 : Int) = ((k + (j + 1) : Nat) : Int) := by
        rw [show (((k + j : Nat) : Int) + 1) = ((k + (j + 1) : Nat) : Int) from by omega]
        unfold IntKind.wrap; simp [IntKind.signed, IntKind.bits]; omega
      have g1 : (j : Int) < n := by omega
      obtain ⟨K, hK⟩ : ∃ K : Int, K = ((k + j : Nat) : Int) := ⟨_, rfl⟩
      rw [← hK] at hw hu ⊢
      clear hK
      go_wp2_with fail
      exact ⟨⟨j + 1, by omega, by congr 1, by congr 1⟩, by simp [intOf]; omega⟩
    · have ej : j = n := by omega
      subst ej
      clear HC
      obtain ⟨K, hK⟩ : ∃ K : Int, K = ((k + j : Nat) : Int) := ⟨_, rfl⟩
      have HK : Hid (K = ((k + j : Nat) : Int)) := hK
      rw [← hK]
      clear hK
      go_wp2_with fail
      go_ret
      exact ⟨ret_int (by rw [HK.out]; omega), rfl⟩
/-! ### as results -/
end Go.Proofs.YtaphofdcoddopaaGreatDoor
/-
  Answers of PeekEntry, handed over by the laws: compared, marked, held.
-/
namespace Go.Proofs.YtaphofdcoddopaaGreatDoor
open Go.ChangeShapes Go.WideShapes Go.ChangeAt Go.RowKit Go.Sort
end Go.Proofs.YtaphofdcoddopaaGreatDoor
/-
  A store that is marked all over: what lies outside of it is as it was.
-/
namespace Go.Proofs.YtaphofdcoddopaaGreatDoor
open Go.ChangeShapes Go.WideShapes Go.ChangeAt Go.RowKit Go.Sort
/-- What was there from block hi on is as it was. -/
structure Above (hi : Nat) (w w' : World) : Prop where
  size : w.heap.size ≤ w'.heap.size
  cell : ∀ b o, hi ≤ b → b < w.heap.size → w'.cell? ⟨b, o, none⟩ = w.cell? ⟨b, o, none⟩
  frozen : ∀ b o, hi ≤ b → b < w.heap.size → w'.frozen? ⟨b, o, none⟩ = w.frozen? ⟨b, o, none⟩
theorem Above.refl (hi : Nat) (w : World) : Above hi w w := ⟨Nat.le_refl _, fun _ _ _ _ => rfl, fun _ _ _ _ => rfl⟩
theorem Above.trans {hi : Nat} {w w1 w2 : World} (h : Above hi w w1) (k : Above hi w1 w2) : Above hi w w2 :=
  ⟨Nat.le_trans h.size k.size, fun b o hb hn => by rw [k.cell b o hb (Nat.lt_of_lt_of_le hn h.size), h.cell b o hb hn], fun b o hb hn => by rw [k.frozen b o hb (Nat.lt_of_lt_of_le hn h.size), h.frozen b o hb hn]⟩
theorem Above.apart {hi B : Nat} {w w' : World} (h : Apart B w w') (hB : B < hi) : Above hi w w' :=
  ⟨h.size, fun b o hb hn => h.cell b o hn (by omega), fun b o hb hn => h.frozen b o hn (by omega)⟩
theorem Above.below {hi : Nat} {w w' : World} (h : Below w.heap.size w w') : Above hi w w' :=
  ⟨h.size, fun b o _ hn => h.cell (p := ⟨b, o, none⟩) hn, fun b o _ hn => h.frozen (p := ⟨b, o, none⟩) hn⟩
theorem QMine.apart {W W' : World} {B b : Nat} {l : List Hdr} (h : QMine W b l) (k : Apart B W W') (hne : b ≠ B) : QMine W' b l :=
  ⟨fun i r hr => by rw [k.cell b _ h.lt hne, k.cell b _ h.lt hne]; exact h.at0 i r hr, fun o => by rw [k.frozen b o h.lt hne]; exact h.free o, Nat.lt_of_lt_of_le h.lt k.size⟩
theorem BMine.apart {W W' : World} {B b : Nat} {l : List UInt8} (h : BMine W b l) (k : Apart B W W') (hne : b ≠ B) : BMine W' b l :=
  ⟨fun i r hr => by rw [k.cell b _ h.lt hne]; exact h.at0 i r hr, fun o ho => by rw [k.frozen b o h.lt hne]; exact h.free o ho, Nat.lt_of_lt_of_le h.lt k.size⟩
theorem TMine.apart {W W' : World} {B b : Nat} {l : List ByteArray} (h : TMine W b l) (k : Apart B W W') (hne : b ≠ B) : TMine W' b l :=
  ⟨fun i r hr => by rw [k.cell b _ h.lt hne]; exact h.at0 i r hr, fun o ho => by rw [k.frozen b o h.lt hne]; exact h.free o ho, Nat.lt_of_lt_of_le h.lt k.size⟩
theorem EntOwn.apart {W W' : World} {B : Nat} {x : Ent} {r : EntR} (h : EntOwn W x r) (k : Apart B W W') (hne : B < blk r.ha) : EntOwn W' x r := by
  obtain ⟨B1, B2, B3, rfl, h1, h2, h3, h4, h5⟩ := h
  have q : B < B1 := hne
  exact ⟨B1, B2, B3, rfl, h1.apart k (by omega), h2.apart k (by omega), h3.apart k (by omega), h4, h5⟩
theorem HRoom.apart {W W' : World} {B G m : Nat} (h : HRoom W G m) (hG : G < W.heap.size) (k : Apart B W W') (hne : G ≠ B) : HRoom W' G m := fun j hj => by
  obtain ⟨⟨u, hu⟩, hf⟩ := h j hj
  exact ⟨⟨u, by rw [k.cell G j hG hne]; exact hu⟩, by rw [k.frozen G j hG hne]; exact hf⟩
/-- The entries from k on are as they were. -/
structure EFrom (W : World) (G k n : Nat) (l : List (Ent × EntR)) : Prop where
  cell : ∀ (i : Nat) q, k ≤ i → l[i]? = some q → ∀ j, j < 13 → W.cell? ⟨G, i * 13 + j, none⟩ = (entW q.1 q.2)[j]?
  own : ∀ (i : Nat) q, k ≤ i → l[i]? = some q → EntOwn W q.1 q.2
  room : HRoom W G (n * 13)
  lt : G < W.heap.size
theorem EFrom.next {W : World} {G k n : Nat} {l : List (Ent × EntR)} (h : EFrom W G k n l) : EFrom W G (k + 1) n l := ⟨fun i q hi => h.cell i q (by omega), fun i q hi => h.own i q (by omega), h.room, h.lt⟩
theorem EFrom.apart {W W' : World} {B G k n : Nat} {l : List (Ent × EntR)} (h : EFrom W G k n l) (a : Apart B W W') (hG : G ≠ B) (hB : ∀ (i : Nat) q, k ≤ i → l[i]? = some q → B < blk q.2.ha) : EFrom W' G k n l :=
  ⟨fun i q hi hq j hj => by rw [a.cell G _ h.lt hG]; exact h.cell i q hi hq j hj, fun i q hi hq => (h.own i q hi hq).apart a (hB i q hi hq), h.room.apart h.lt a hG, Nat.lt_of_lt_of_le h.lt a.size⟩
theorem EFrom.below {W W' : World} {G k n : Nat} {l : List (Ent × EntR)} (h : EFrom W G k n l) (b : Below W.heap.size W W') : EFrom W' G k n l :=
  ⟨fun i q hi hq j hj => by rw [b.cell (p := ⟨G, i * 13 + j, none⟩) h.lt]; exact h.cell i q hi hq j hj, fun i q hi hq => (h.own i q hi hq).keep b, h.room.keep b, Nat.lt_of_lt_of_le h.lt b.size⟩
theorem EFrom.set {W : World} {G k n : Nat} {l : List (Ent × EntR)} (h : EFrom W G (k + 1) n l) (hup : ∀ q ∈ l, G < blk q.2.ha) (o : Nat) (ho : o < (k + 1) * 13) (u : Value) : EFrom (W.setCell ⟨G, o, none⟩ u) G (k + 1) n l := by
  refine ⟨fun i q hi hq j hj => ?_, fun i q hi hq => (h.own i q hi hq).off1 u (hup q (List.mem_of_getElem? hq)), h.room.set _ _, by simpa using h.lt⟩
  rw [World.cell?_setCell_other _ _ _ _ (hoff_ne (by omega))]
  exact h.cell i q hi hq j hj
/-- While entry k is being marked. -/
structure MS (w : World) (lo hi G n k : Nat) (l : List (Ent × EntR)) (v2 v3 v11 : Value) (W : World) : Prop where
  fr : EFrom W G (k + 1) n l
  c2 : W.cell? ⟨G, k * 13 + 2, none⟩ = some v2
  c3 : W.cell? ⟨G, k * 13 + 3, none⟩ = some v3
  c11 : W.cell? ⟨G, k * 13 + 11, none⟩ = some v11
  bl : Below lo w W
  ab : Above hi w W
  le : lo ≤ w.heap.size
section
variable {w W W' : World} {lo hi G n k : Nat} {l : List (Ent × EntR)} {v2 v3 v11 : Value}
theorem MS.below (h : MS w lo hi G n k l v2 v3 v11 W) (b : Below W.heap.size W W') : MS w lo hi G n k l v2 v3 v11 W' :=
  ⟨h.fr.below b, by rw [b.cell (p := ⟨G, k * 13 + 2, none⟩) h.fr.lt]; exact h.c2, by rw [b.cell (p := ⟨G, k * 13 + 3, none⟩) h.fr.lt]; exact h.c3, by rw [b.cell (p := ⟨G, k * 13 + 11, none⟩) h.fr.lt]; exact h.c11, h.bl.trans (b.mono (Nat.le_trans h.le h.bl.size)), h.ab.trans (.below b), h.le⟩
theorem MS.set (h : MS w lo hi G n k l v2 v3 v11 W) (hup : ∀ q ∈ l, G < blk q.2.ha) (hlo : lo ≤ G) (hhi : G < hi) (j : Nat) (hj : j < 13) (h2 : j ≠ 2) (h3 : j ≠ 3) (h4 : j ≠ 11) (u : Value) : MS w lo hi G n k l v2 v3 v11 (W.setCell ⟨G, k * 13 + j, none⟩ u) :=
  ⟨h.fr.set hup _ (by omega) u, by rw [World.cell?_setCell_other _ _ _ _ (hoff_ne (by omega))]; exact h.c2, by rw [World.cell?_setCell_other _ _ _ _ (hoff_ne (by omega))]; exact h.c3, by rw [World.cell?_setCell_other _ _ _ _ (hoff_ne (by omega))]; exact h.c11, h.bl.setCell hlo u, h.ab.trans (.apart (Apart.set G _ W u) hhi), h.le⟩
theorem MS.apart (h : MS w lo hi G n k l v2 v3 v11 W) {B : Nat} (a : Apart B W W') (b : Below B W W') (hlo : lo ≤ B) (hhi : B < hi) (hG : G < B) (hB : ∀ (i : Nat) q, k + 1 ≤ i → l[i]? = some q → B < blk q.2.ha) : MS w lo hi G n k l v2 v3 v11 W' :=
  ⟨h.fr.apart a (by omega) hB, by rw [a.cell G _ h.fr.lt (by omega)]; exact h.c2, by rw [a.cell G _ h.fr.lt (by omega)]; exact h.c3, by rw [a.cell G _ h.fr.lt (by omega)]; exact h.c11, h.bl.trans (b.mono hlo), h.ab.trans (.apart a hhi), h.le⟩
end
set_option maxHeartbeats 4000000 in
theorem markTS_row (W : World) (g n cap k : Nat) (hn : n ≤ 1048576) (hk0 : 1 ≤ k) (hk : k ≤ 100000000000000) (hg : g < W.heap.size) (hm : HRoom W g n) :
    Calls Tryz.prog 85 #[.slice (some ⟨g, 0, none⟩) n cap, .int .i64 (k : Int)] W fun e w' => e = .returned (.int .i64 ((k + n : Nat) : Int)) ∧ Apart g W w' ∧ Below g W w' := by
  have HM : Hid (HRoom W g n) := hm
  clear hm
  go_enter Tryz.func85, Tryz.ntmps85
  go_wp2_with fail
  go_loopw [1, 5] (fun x i wr => ∃ j : Nat, j ≤ n ∧ i = .int .i64 (j : Int) ∧ x = .int .i64 ((k + j : Nat) : Int) ∧ HRoom wr g n ∧ g < wr.heap.size ∧ Apart g W wr ∧ Below g W wr) (fun _ i _ => n - (intOf i).toNat)
  case atStart => exact ⟨0, Nat.zero_le _, rfl, rfl, HM.out, hg, .refl _ _, Below.refl _ _⟩
  case round =>
    obtain ⟨j, hj, rfl, rfl, hm, hgw, ha, hb⟩ := hrel
    by_cases hlt : j < n
    · have C : Hid (Calls Tryz.prog 101 #[.int .i64 ((k + j : Nat) : Int)] wr fun e w' => e = .returned (.string (mkT (k + j))) ∧ Below wr.heap.size wr w') := markText_any (k + j) (by omega) (by omega) wr
      have HK : Hid (HRoom wr g n ∧ Apart g W wr ∧ Below g W wr) := ⟨hm, ha, hb⟩
      have gj : (j : Int) < n := by omega
      have gj0 : (0 : Int) ≤ j := by omega
      clear hm ha hb HM
      go_wp2_with fail
      refine C.out.mono ?_
      rintro e w2 ⟨rfl, hb2⟩
      have hm2 := HK.out.1.keep hb2
      obtain ⟨⟨u, hu⟩, hf⟩ := hm2 j hlt
      have HN : Hid (∀ v, HRoom (w2.setCell ⟨g, j, none⟩ v) g n ∧ g < (w2.setCell ⟨g, j, none⟩ v).heap.size ∧ Apart g W (w2.setCell ⟨g, j, none⟩ v) ∧ Below g W (w2.setCell ⟨g, j, none⟩ v)) := fun v => ⟨hm2.set _ _, by simpa using Nat.lt_of_lt_of_le hgw hb2.size, (HK.out.2.1.trans (.below hb2)).trans (Apart.set g _ _ _), (HK.out.2.2.trans (hb2.mono (Nat.le_of_lt hgw))).setCell (Nat.le_refl _) _⟩
      clear hb2 hm2 HK C
      go_wp2_with fail
      go_roundw
      case rel => exact ⟨j + 1, by omega, by go_num, by go_num, (HN.out _).1, (HN.out _).2.1, (HN.out _).2.2.1, (HN.out _).2.2.2⟩
      case measure => simp [intOf]; omega
    · have e : j = n := by omega
      subst e
      go_wp2_with fail
      go_ret
      exact ⟨rfl, ha, hb⟩
theorem BMine.room {W : World} {B : Nat} {l : List UInt8} (h : BMine W B l) : HRoom W B l.length := fun j hj => ⟨⟨_, by have := h.at0 j l[j] (List.getElem?_eq_getElem hj); rw [Nat.zero_add] at this; exact this⟩, h.free j hj⟩
theorem TMine.room {W : World} {B : Nat} {l : List ByteArray} (h : TMine W B l) : HRoom W B l.length := fun j hj => ⟨⟨_, by have := h.at0 j l[j] (List.getElem?_eq_getElem hj); rw [Nat.zero_add] at this; exact this⟩, h.free j hj⟩
theorem BAV.ap {g n c : Nat} {w w' : World} (h : BAV (.slice (some ⟨g, 0, none⟩) n c) w w') : Apart g w w' :=
  ⟨by rw [h.size]; exact Nat.le_refl _, fun b o hb hn => h.cell b o hb (by simp only [Value.ownBlock, ne_eq, Option.some.injEq]; omega), fun b o _ _ => h.frozen b o⟩
set_option maxRecDepth 100000 in
set_option maxHeartbeats 16000000 in
theorem markES_weak (w : World) (lo hi G cap c0 : Nat) (l : List (Ent × EntR)) (hl : l.length ≤ 1048576) (hf : ∀ q ∈ l, EntFit q.1) (hm : EntsMine w G l) (hr : HRoom w G (l.length * 13)) (hlo : lo ≤ G) (hhi : G < hi) (hhs : hi ≤ w.heap.size) (hub : ∀ q ∈ l, blk q.2.ta < hi) (hc0 : 1 ≤ c0) (hc1 : c0 ≤ 10000000000000) :
    Calls Tryz.prog 56 #[.slice (some ⟨G, 0, none⟩) l.length cap, .int .i64 (c0 : Int)] w fun e w' => (∃ c1 : Nat, e = .returned (.int .i64 (c1 : Int)) ∧ 1 ≤ c1 ∧ c1 ≤ c0 + l.length * 4194314) ∧ Below lo w w' ∧ Above hi w w' := by
  have HUP : Hid (∀ q ∈ l, G < blk q.2.ha) := hm.up
  have HPW : Hid (∀ (i j : Nat) q q', i < j → l[i]? = some q → l[j]? = some q' → blk q.2.ta < blk q'.2.ha) := fun i j q q' hij hi hj => by
    obtain ⟨h1, e1⟩ := List.getElem?_eq_some_iff.1 hi
    obtain ⟨h2, e2⟩ := List.getElem?_eq_some_iff.1 hj
    have := List.pairwise_iff_getElem.1 hm.pw i j h1 h2 hij
    rw [e1, e2] at this
    exact this
  have HUB : Hid (∀ q ∈ l, blk q.2.ta < hi) := hub
  have HFT : Hid (∀ q ∈ l, EntFit q.1) := hf
  have HST : Hid (EFrom w G 0 l.length l) := ⟨fun i q _ hq j hj => hm.cell i q hq j hj, fun i q _ hq => hm.own q (List.mem_of_getElem? hq), hr, hm.lt⟩
  clear hm hr hub hf
  obtain ⟨n, hn0⟩ : ∃ n, l.length = n := ⟨_, rfl⟩
  rw [hn0] at HST hl ⊢
  have HN : Hid (l.length = n) := hn0
  clear hn0
  go_enter Tryz.func56, Tryz.ntmps56
  go_wp2_with fail
  go_loopw [1, 5] (fun x i wr => ∃ k c : Nat, k ≤ n ∧ i = .int .i64 (k : Int) ∧ x = .int .i64 (c : Int) ∧ 1 ≤ c ∧ c ≤ c0 + k * 4194314 ∧ EFrom wr G k n l ∧ Below lo w wr ∧ Above hi w wr) (fun _ i _ => n - (intOf i).toNat)
  case atStart => exact ⟨0, c0, Nat.zero_le _, rfl, rfl, hc0, by omega, HST.out, Below.refl _ _, .refl _ _⟩
  case round =>
    obtain ⟨k, c, hk, rfl, rfl, h1, h2, hfr, hb, hab⟩ := hrel
    clear HST
    by_cases hlt : k < n
    · obtain ⟨⟨x, r⟩, hq⟩ : ∃ r, l[k]? = some r := ⟨l[k]'(by have := HN.out; omega), List.getElem?_eq_getElem _⟩
      have hmem := List.mem_of_getElem? hq
      have ft := HFT.out _ hmem
      have hcell := hfr.cell k _ (Nat.le_refl _) hq
      have ho := hfr.own k _ (Nat.le_refl _) hq
      simp only at ho
      obtain ⟨B1, B2, B3, er, m1, m2, m3, hb12, hb23⟩ := ho
      subst er
      have hG1 : G < B1 := HUP.out _ hmem
      have hB3 : B3 < hi := HUB.out _ hmem
      have HNX : Hid (∀ (i : Nat) q, k + 1 ≤ i → l[i]? = some q → B3 < blk q.2.ha) := fun i q hi' hq' => HPW.out k i _ q (by omega) hq hq'
      have z2 : wr.cell? ⟨G, k * 13 + 2, none⟩ = some (.slice (some ⟨B1, 0, none⟩) x.hs.length x.hs.length) := hcell 2 (by omega)
      have z3 : wr.cell? ⟨G, k * 13 + 3, none⟩ = some (.slice (some ⟨B2, 0, none⟩) x.bl.length x.bl.length) := hcell 3 (by omega)
      have z11 : wr.cell? ⟨G, k * 13 + 11, none⟩ = some (.slice (some ⟨B3, 0, none⟩) x.ts.length x.ts.length) := hcell 11 (by omega)
      have Q0 : Hid (MS w lo hi G n k l (.slice (some ⟨B1, 0, none⟩) x.hs.length x.hs.length) (.slice (some ⟨B2, 0, none⟩) x.bl.length x.bl.length) (.slice (some ⟨B3, 0, none⟩) x.ts.length x.ts.length) wr) := ⟨hfr.next, z2, z3, z11, hb, hab, by omega⟩
      have M1 : Hid (QMine wr B1 x.hs) := m1
      have M2 : Hid (BMine wr B2 x.bl) := m2
      have M3 : Hid (TMine wr B3 x.ts) := m3
      obtain ⟨f1, f2, f3⟩ := ft
      simp only at f1 f2 f3
      clear z2 z3 z11 hcell hfr hb hab m1 m2 m3 hq hmem HPW HUB HFT
      obtain ⟨hn, ehn⟩ : ∃ n, Hid (x.hs.length = n) := ⟨_, rfl⟩
      obtain ⟨bn, ebn⟩ : ∃ n, Hid (x.bl.length = n) := ⟨_, rfl⟩
      obtain ⟨tn, etn⟩ : ∃ n, Hid (x.ts.length = n) := ⟨_, rfl⟩
      rw [ehn.out, ebn.out, etn.out] at Q0
      rw [ehn.out] at f1
      rw [ebn.out] at f2
      rw [etn.out] at f3
      have CT : Hid (Calls Tryz.prog 101 #[.int .i64 (c : Int)] wr fun e w' => e = .returned (.string (mkT c)) ∧ Below wr.heap.size wr w') := markText_any c (by omega) (by omega) wr
      have gk : (k : Int) < n := by omega
      have gk0 : (0 : Int) ≤ k := by omega
      go_wp2_with fail
      refine CT.out.mono ?_
      rintro e w1 ⟨rfl, hb1⟩
      have Q1 := Q0.out.below hb1
      have N1 : Hid (QMine w1 B1 x.hs ∧ BMine w1 B2 x.bl ∧ TMine w1 B3 x.ts) := ⟨M1.out.keep hb1, M2.out.keep hb1, M3.out.keep hb1⟩
      obtain ⟨⟨u0, g0⟩, f0⟩ := Q1.fr.room (k * 13) (by omega)
      obtain ⟨⟨u1, g1⟩, fz1⟩ := Q1.fr.room (k * 13 + 1) (by omega)
      obtain ⟨V1, hV1⟩ : ∃ V, V = (w1.setCell ⟨G, k * 13, none⟩ (.string (mkT c))).setCell ⟨G, k * 13 + 1, none⟩ (.int .i64 ((c : Int) + 1)) := ⟨_, rfl⟩
      have HV1 : Hid (V1 = (w1.setCell ⟨G, k * 13, none⟩ (.string (mkT c))).setCell ⟨G, k * 13 + 1, none⟩ (.int .i64 ((c : Int) + 1))) := hV1
      have Q2 : Hid (MS w lo hi G n k l (.slice (some ⟨B1, 0, none⟩) hn hn) (.slice (some ⟨B2, 0, none⟩) bn bn) (.slice (some ⟨B3, 0, none⟩) tn tn) V1 ∧ QMine V1 B1 x.hs ∧ BMine V1 B2 x.bl ∧ TMine V1 B3 x.ts) := by
        rw [hV1]
        exact ⟨(Q1.set HUP.out hlo hhi 0 (by omega) (by omega) (by omega) (by omega) _).set HUP.out hlo hhi 1 (by omega) (by omega) (by omega) (by omega) _, (N1.out.1.off1 _ (by omega)).off1 _ (by omega), (N1.out.2.1.off1 _ (by omega)).off1 _ (by omega), (N1.out.2.2.off1 _ (by omega)).off1 _ (by omega)⟩
      have y2 := Q1.c2
      clear hV1 N1 hb1 CT Q0 M1 M2 M3 Q1
      have e1 : IntKind.i64.wrap ((c : Int) + 1) = (c : Int) + 1 := by unfold IntKind.wrap; simp [IntKind.signed, IntKind.bits]; omega
      have e2 : IntKind.i64.wrap ((c : Int) + 1 + 1) = (c : Int) + 1 + 1 := by unfold IntKind.wrap; simp [IntKind.signed, IntKind.bits]; omega
      have CH : Hid (Calls Tryz.prog 83 #[.slice (some ⟨B1, 0, none⟩) hn hn, .int .i64 ((c : Int) + 1 + 1)] V1 fun e w' => e = .returned (.int .i64 ((c : Int) + 1 + 1 + 2 * (hn : Int))) ∧ Apart B1 V1 w' ∧ Below B1 V1 w') := by
        have := markHeaderS_any V1 B1 0 hn hn (c + 1 + 1) x.hs ehn.out f1 (by omega) (by omega) Q2.out.2.1.at0 Q2.out.2.1.free Q2.out.2.1.lt
        rw [show (((c + 1 + 1 : Nat)) : Int) = (c : Int) + 1 + 1 from by omega, show (((c + 1 + 1 + 2 * hn : Nat)) : Int) = (c : Int) + 1 + 1 + 2 * (hn : Int) from by omega] at this
        exact this.mono (fun e w' h => ⟨h.1, h.2.2.1, h.2.2.2.1⟩)
      go_wp2_with fail
      rw [← HV1.out]
      refine CH.out.mono ?_
      rintro e w3 ⟨rfl, ha3, hb3⟩
      have Q3 : Hid (MS w lo hi G n k l (.slice (some ⟨B1, 0, none⟩) hn hn) (.slice (some ⟨B2, 0, none⟩) bn bn) (.slice (some ⟨B3, 0, none⟩) tn tn) w3 ∧ BMine w3 B2 x.bl ∧ TMine w3 B3 x.ts) := ⟨Q2.out.1.apart ha3 hb3 (by omega) (by omega) hG1 (fun i q h h' => by have := HNX.out i q h h'; omega), Q2.out.2.2.1.apart ha3 (by omega), Q2.out.2.2.2.apart ha3 (by omega)⟩
      clear Q2 CH ha3 hb3 HV1 y2 g0 f0 g1
      have y3 := Q3.out.1.c3
      obtain ⟨d, hd⟩ : ∃ d : Nat, Hid (c + 1 + 1 + 2 * hn = d) := ⟨_, rfl⟩
      have ed : (c : Int) + 1 + 1 + 2 * (hn : Int) = (d : Int) := by have := hd.out; omega
      have hdle : d ≤ c + 2 + 2 * hn := by have := hd.out; omega
      have hdge : 1 ≤ d := by have := hd.out; omega
      rw [ed]
      have CB : Hid (Calls Tryz.prog 84 #[.slice (some ⟨B2, 0, none⟩) bn bn, .int .i64 (d : Int)] w3 fun e w' => e = .returned (.int .i64 ((d + bn : Nat) : Int)) ∧ Apart B2 w3 w' ∧ Below B2 w3 w') := by
        have hrm := Q3.out.2.1.room
        rw [ebn.out] at hrm
        exact (markByteS_row w3 B2 bn bn d B2 f2 (by omega) (Nat.le_refl _) Q3.out.2.1.lt hrm).mono (fun e w' h => ⟨h.1, h.2.2.1.ap, h.2.2.2⟩)
      go_wp2_with fail
      refine CB.out.mono ?_
      rintro e w4 ⟨rfl, ha4, hb4⟩
      have Q4 : Hid (MS w lo hi G n k l (.slice (some ⟨B1, 0, none⟩) hn hn) (.slice (some ⟨B2, 0, none⟩) bn bn) (.slice (some ⟨B3, 0, none⟩) tn tn) w4 ∧ TMine w4 B3 x.ts) := ⟨Q3.out.1.apart ha4 hb4 (by omega) (by omega) (by omega) (fun i q h h' => by have := HNX.out i q h h'; omega), Q3.out.2.2.apart ha4 (by omega)⟩
      clear Q3 CB ha4 hb4 y3 ed
      obtain ⟨m, hm⟩ : ∃ m : Nat, Hid (d + bn = m) := ⟨_, rfl⟩
      rw [hm.out]
      have hmle : m ≤ c + 2 + 2 * hn + bn := by have := hm.out; omega
      have hmge : 1 ≤ m := by have := hm.out; omega
      clear hd hm hdle hdge
      obtain ⟨⟨u4, g4⟩, fz4⟩ := Q4.out.1.fr.room (k * 13 + 4) (by omega)
      obtain ⟨⟨u5, g5⟩, fz5⟩ := Q4.out.1.fr.room (k * 13 + 5) (by omega)
      obtain ⟨⟨u6, g6⟩, fz6⟩ := Q4.out.1.fr.room (k * 13 + 6) (by omega)
      obtain ⟨⟨u7, g7⟩, fz7⟩ := Q4.out.1.fr.room (k * 13 + 7) (by omega)
      obtain ⟨⟨u8, g8⟩, fz8⟩ := Q4.out.1.fr.room (k * 13 + 8) (by omega)
      obtain ⟨⟨u9, g9⟩, fz9⟩ := Q4.out.1.fr.room (k * 13 + 9) (by omega)
      obtain ⟨⟨u10, g10⟩, fz10⟩ := Q4.out.1.fr.room (k * 13 + 10) (by omega)
      have s1 : IntKind.i64.wrap ((m : Int) + 1) = (m : Int) + 1 := by unfold IntKind.wrap; simp [IntKind.signed, IntKind.bits]; omega
      have s2 : IntKind.i64.wrap ((m : Int) + 1 + 1) = (m : Int) + 1 + 1 := by unfold IntKind.wrap; simp [IntKind.signed, IntKind.bits]; omega
      have s3 : IntKind.i64.wrap ((m : Int) + 1 + 1 + 1) = (m : Int) + 1 + 1 + 1 := by unfold IntKind.wrap; simp [IntKind.signed, IntKind.bits]; omega
      have s4 : IntKind.i64.wrap ((m : Int) + 1 + 1 + 1 + 1) = (m : Int) + 1 + 1 + 1 + 1 := by unfold IntKind.wrap; simp [IntKind.signed, IntKind.bits]; omega
      have s5 : IntKind.i64.wrap ((m : Int) + 1 + 1 + 1 + 1 + 1) = (m : Int) + 1 + 1 + 1 + 1 + 1 := by unfold IntKind.wrap; simp [IntKind.signed, IntKind.bits]; omega
      have s6 : IntKind.i64.wrap ((m : Int) + 1 + 1 + 1 + 1 + 1 + 1) = (m : Int) + 1 + 1 + 1 + 1 + 1 + 1 := by unfold IntKind.wrap; simp [IntKind.signed, IntKind.bits]; omega
      have s7 : IntKind.i64.wrap ((m : Int) + 1 + 1 + 1 + 1 + 1 + 1 + 1) = (m : Int) + 1 + 1 + 1 + 1 + 1 + 1 + 1 := by unfold IntKind.wrap; simp [IntKind.signed, IntKind.bits]; omega
      have SETS : Hid (∀ a0 a1 a2 a3 a4 a5 a6, MS w lo hi G n k l (.slice (some ⟨B1, 0, none⟩) hn hn) (.slice (some ⟨B2, 0, none⟩) bn bn) (.slice (some ⟨B3, 0, none⟩) tn tn) (((((((w4.setCell ⟨G, k * 13 + 4, none⟩ a0).setCell ⟨G, k * 13 + 5, none⟩ a1).setCell ⟨G, k * 13 + 6, none⟩ a2).setCell ⟨G, k * 13 + 7, none⟩ a3).setCell ⟨G, k * 13 + 8, none⟩ a4).setCell ⟨G, k * 13 + 9, none⟩ a5).setCell ⟨G, k * 13 + 10, none⟩ a6) ∧ TMine (((((((w4.setCell ⟨G, k * 13 + 4, none⟩ a0).setCell ⟨G, k * 13 + 5, none⟩ a1).setCell ⟨G, k * 13 + 6, none⟩ a2).setCell ⟨G, k * 13 + 7, none⟩ a3).setCell ⟨G, k * 13 + 8, none⟩ a4).setCell ⟨G, k * 13 + 9, none⟩ a5).setCell ⟨G, k * 13 + 10, none⟩ a6) B3 x.ts) := by
        intro a0 a1 a2 a3 a4 a5 a6
        refine ⟨?_, ((((((Q4.out.2.off1 _ (by omega)).off1 _ (by omega)).off1 _ (by omega)).off1 _ (by omega)).off1 _ (by omega)).off1 _ (by omega)).off1 _ (by omega)⟩
        exact ((((((Q4.out.1.set HUP.out hlo hhi 4 (by omega) (by omega) (by omega) (by omega) _).set HUP.out hlo hhi 5 (by omega) (by omega) (by omega) (by omega) _).set HUP.out hlo hhi 6 (by omega) (by omega) (by omega) (by omega) _).set HUP.out hlo hhi 7 (by omega) (by omega) (by omega) (by omega) _).set HUP.out hlo hhi 8 (by omega) (by omega) (by omega) (by omega) _).set HUP.out hlo hhi 9 (by omega) (by omega) (by omega) (by omega) _).set HUP.out hlo hhi 10 (by omega) (by omega) (by omega) (by omega) _
      have y11 := Q4.out.1.c11
      clear Q4
      have CS : Hid (∀ X, MS w lo hi G n k l (.slice (some ⟨B1, 0, none⟩) hn hn) (.slice (some ⟨B2, 0, none⟩) bn bn) (.slice (some ⟨B3, 0, none⟩) tn tn) X → TMine X B3 x.ts → Calls Tryz.prog 85 #[.slice (some ⟨B3, 0, none⟩) tn tn, .int .i64 ((m : Int) + 1 + 1 + 1 + 1 + 1 + 1 + 1)] X fun e w' => e = .returned (.int .i64 ((m : Int) + 7 + (tn : Int))) ∧ MS w lo hi G n k l (.slice (some ⟨B1, 0, none⟩) hn hn) (.slice (some ⟨B2, 0, none⟩) bn bn) (.slice (some ⟨B3, 0, none⟩) tn tn) w') := fun X hM hT => by
        have hrm := hT.room
        rw [etn.out] at hrm
        have := markTS_row X B3 tn tn (m + 7) f3 (by omega) (by omega) hT.lt hrm
        rw [show (((m + 7 : Nat)) : Int) = (m : Int) + 1 + 1 + 1 + 1 + 1 + 1 + 1 from by omega, show (((m + 7 + tn : Nat)) : Int) = (m : Int) + 7 + (tn : Int) from by omega] at this
        exact this.mono (fun e w' h => ⟨h.1, hM.apart h.2.1 h.2.2 (by omega) hB3 (by omega) HNX.out⟩)
      go_wp2_with fail
      refine (CS.out _ (SETS.out _ _ _ _ _ _ _).1 (SETS.out _ _ _ _ _ _ _).2).mono ?_
      rintro e w6 ⟨rfl, Q6⟩
      clear SETS CS y11
      obtain ⟨p, hp⟩ : ∃ p : Nat, Hid (m + 7 + tn = p) := ⟨_, rfl⟩
      have ep : (m : Int) + 7 + (tn : Int) = (p : Int) := by have := hp.out; omega
      have hple : p ≤ c + 9 + 2 * hn + bn + tn := by have := hp.out; omega
      have hpge : 1 ≤ p := by have := hp.out; omega
      rw [ep]
      clear ep hp
      obtain ⟨⟨u12, g12⟩, fz12⟩ := Q6.fr.room (k * 13 + 12) (by omega)
      have FIN : Hid (∀ u, MS w lo hi G n k l (.slice (some ⟨B1, 0, none⟩) hn hn) (.slice (some ⟨B2, 0, none⟩) bn bn) (.slice (some ⟨B3, 0, none⟩) tn tn) (w6.setCell ⟨G, k * 13 + 12, none⟩ u)) := fun u => Q6.set HUP.out hlo hhi 12 (by omega) (by omega) (by omega) (by omega) u
      have t1 : IntKind.i64.wrap ((p : Int) + 1) = (p : Int) + 1 := by unfold IntKind.wrap; simp [IntKind.signed, IntKind.bits]; omega
      clear Q6
      go_wp2_with fail
      go_roundw
      case rel => exact ⟨k + 1, p + 1, by omega, by go_num, by go_num, by omega, by omega, (FIN.out _).fr, (FIN.out _).bl, (FIN.out _).ab⟩
      case measure => simp [intOf]; omega
    · have e : k = n := by omega
      subst e
      go_wp2_with fail
      go_ret
      exact ⟨⟨c, rfl, h1, h2⟩, hb, hab⟩
end Go.Proofs.YtaphofdcoddopaaGreatDoor
/-
  A whole store that is marked: what lies outside of it is as it was.
-/
namespace Go.Proofs.YtaphofdcoddopaaGreatDoor
open Go.ChangeShapes Go.WideShapes Go.ChangeAt Go.RowKit Go.Sort
theorem Above.mono {h1 h2 : Nat} {w w' : World} (h : Above h1 w w') (hh : h1 ≤ h2) : Above h2 w w' := ⟨h.size, fun b o hb hn => h.cell b o (by omega) hn, fun b o hb hn => h.frozen b o (by omega) hn⟩
theorem EntOwn.above {W W' : World} {hi : Nat} {x : Ent} {r : EntR} (h : EntOwn W x r) (k : Above hi W W') (hh : hi ≤ blk r.ha) : EntOwn W' x r := by
  obtain ⟨B1, B2, B3, rfl, h1, h2, h3, h4, h5⟩ := h
  have q : hi ≤ B1 := hh
  refine ⟨B1, B2, B3, rfl, ⟨fun i r hr => ?_, fun o => ?_, ?_⟩, ⟨fun i r hr => ?_, fun o ho => ?_, ?_⟩, ⟨fun i r hr => ?_, fun o ho => ?_, ?_⟩, h4, h5⟩
  · rw [k.cell B1 _ q h1.lt, k.cell B1 _ q h1.lt]; exact h1.at0 i r hr
  · rw [k.frozen B1 o q h1.lt]; exact h1.free o
  · exact Nat.lt_of_lt_of_le h1.lt k.size
  · rw [k.cell B2 _ (by omega) h2.lt]; exact h2.at0 i r hr
  · rw [k.frozen B2 o (by omega) h2.lt]; exact h2.free o ho
  · exact Nat.lt_of_lt_of_le h2.lt k.size
  · rw [k.cell B3 _ (by omega) h3.lt]; exact h3.at0 i r hr
  · rw [k.frozen B3 o (by omega) h3.lt]; exact h3.free o ho
  · exact Nat.lt_of_lt_of_le h3.lt k.size
theorem EntsMine.above {W W' : World} {hi G : Nat} {l : List (Ent × EntR)} (h : EntsMine W G l) (k : Above hi W W') (hh : hi ≤ G) : EntsMine W' G l :=
  ⟨fun i q hq j hj => by rw [k.cell G _ hh h.lt]; exact h.cell i q hq j hj, fun o => by rw [k.frozen G o hh h.lt]; exact h.free o, Nat.lt_of_lt_of_le h.lt k.size, fun q hq => (h.own q hq).above k (Nat.le_trans hh (Nat.le_of_lt (h.up q hq))), h.up, h.pw⟩
theorem EntsMine.room {W : World} {G : Nat} {l : List (Ent × EntR)} (h : EntsMine W G l) : HRoom W G (l.length * 13) := fun j hj => by
  have hm : j / 13 * 13 + j % 13 = j := by omega
  obtain ⟨q, hq⟩ : ∃ r, l[j / 13]? = some r := ⟨l[j / 13]'(by omega), List.getElem?_eq_getElem _⟩
  have c := h.cell (j / 13) q hq (j % 13) (by omega)
  rw [hm] at c
  exact ⟨⟨_, c.trans (List.getElem?_eq_getElem (by rw [show (entW q.1 q.2).length = 13 from rfl]; omega))⟩, h.free j⟩
set_option maxHeartbeats 4000000 in
theorem markSto_weak (w0 w : World) (bu gu : Int) (tl kl : List (Ent × EntR)) (G1 G2 lo hi tk kk : Nat) (hf : StoFit tl kl) (h : StoNew w0 G1 G2 tl kl) (hw : Below w0.heap.size w0 w) (hlo : lo ≤ G1) (hhi : hi = w0.heap.size) :
    Calls Tryz.prog 17 #[.agg #[.int .i64 bu, .int .i64 gu, .slice (some ⟨G1, 0, none⟩) tl.length tk, .slice (some ⟨G2, 0, none⟩) kl.length kk], .int .i64 1] w fun e w' => (∃ c1 : Nat, e = .returned (.int .i64 (c1 : Int)) ∧ 1 ≤ c1 ∧ c1 ≤ 10000000000000) ∧ Below lo w w' ∧ Above hi w w' := by
  obtain ⟨a, b, e1, e2, m0⟩ := h
  have m := m0.keep hw
  have hw0 := hw.size
  have hG0 := m0.k.lt
  have l1 := len_map e1
  have l2 := len_map e2
  rw [← l1, ← l2]
  have n1 : a.length ≤ 1048576 := by rw [l1]; exact hf.tn
  have n2 : b.length ≤ 1048576 := by rw [l2]; exact hf.kn
  have F1 := fit_map e1 hf.tf
  have F2 := fit_map e2 hf.kf
  have hG1 := m.t.lt
  have hG2 := m.k.lt
  have hGG := m.lt
  obtain ⟨W, hW⟩ : ∃ W, W = w.alloc (.cells #[.int .i64 bu, .int .i64 gu, .slice (some ⟨G1, 0, none⟩) a.length tk, .slice (some ⟨G2, 0, none⟩) b.length kk] 28) := ⟨_, rfl⟩
  have HW : Hid (W = w.alloc (.cells #[.int .i64 bu, .int .i64 gu, .slice (some ⟨G1, 0, none⟩) a.length tk, .slice (some ⟨G2, 0, none⟩) b.length kk] 28)) := hW
  have bW : Below w.heap.size w W := by rw [hW]; exact (Below.refl _ _).alloc (Nat.le_refl _) _
  have sW : S4 W w.heap.size (.int .i64 bu) (.int .i64 gu) (.slice (some ⟨G1, 0, none⟩) a.length tk) (.slice (some ⟨G2, 0, none⟩) b.length kk) := by rw [hW]; exact S4.new w _ _ _ _ _
  have mW := m.keep bW
  have C1 : Hid (Calls Tryz.prog 56 #[.slice (some ⟨G1, 0, none⟩) a.length tk, .int .i64 ((1 : Nat) : Int)] W fun e w' => (∃ c1 : Nat, e = .returned (.int .i64 (c1 : Int)) ∧ 1 ≤ c1 ∧ c1 ≤ 1 + a.length * 4194314) ∧ Below lo W w' ∧ Above G2 W w') := markES_weak W lo G2 G1 tk 1 a n1 F1 mW.t mW.t.room hlo hGG (by have := bW.size; omega) m.up (by omega) (by omega)
  have HX : Hid (∀ X c, Below lo W X → Above G2 W X → 1 ≤ c → c ≤ 1 + a.length * 4194314 → Calls Tryz.prog 56 #[.slice (some ⟨G2, 0, none⟩) b.length kk, .int .i64 ((c : Nat) : Int)] X fun e w' => (∃ c1 : Nat, e = .returned (.int .i64 (c1 : Int)) ∧ 1 ≤ c1 ∧ c1 ≤ c + b.length * 4194314) ∧ Below lo X w' ∧ Above hi X w') := fun X c hb ha hc1 hc2 => by
    have mk := mW.k.above ha (Nat.le_refl _)
    have hs := ha.size
    have hws := bW.size
    exact markES_weak X lo hi G2 kk c b n2 F2 mk mk.room (by omega) (by omega) (by omega) (fun q hq => by have := (mW.k.own q hq).lt; have := (m0.k.own q hq).lt; omega) hc1 (by omega)
  have K3 : Hid (∀ X, Above G2 W X → X.cell? ⟨w.heap.size, 3, none⟩ = some (.slice (some ⟨G2, 0, none⟩) b.length kk)) := fun X ha => by
    rw [ha.cell w.heap.size 3 (by omega) sW.lt]; exact sW.c3
  have HB : Hid (Below lo w W ∧ Above hi w W) := ⟨bW.mono (by omega), .below bW⟩
  have HLE : Hid (lo ≤ w.heap.size ∧ G2 ≤ hi) := ⟨by omega, by omega⟩
  clear hW bW sW mW F1 F2 m m0 hw e1 e2 l1 l2 hf
  generalize a.length = an at *
  generalize b.length = bn at *
  have C1' : Hid (Calls Tryz.prog 56 #[.slice (some ⟨G1, 0, none⟩) an tk, .int .i64 1] W fun e w' => (∃ c1 : Nat, e = .returned (.int .i64 (c1 : Int)) ∧ 1 ≤ c1 ∧ c1 ≤ 1 + an * 4194314) ∧ Below lo W w' ∧ Above G2 W w') := C1.out
  clear C1
  go_enter Tryz.func17, Tryz.ntmps17
  go_wp2_with fail
  rw [← HW.out]
  refine C1'.out.mono ?_
  rintro e w1 ⟨⟨c1, rfl, hc1, hc2⟩, hb1, ha1⟩
  have q3 := K3.out w1 ha1
  have HC2 := HX.out w1 c1 hb1 ha1 hc1 hc2
  have HB1 : Hid (Below lo w w1 ∧ Above hi w w1) := ⟨HB.out.1.trans hb1, HB.out.2.trans (ha1.mono HLE.out.2)⟩
  clear K3 HX C1' HW HB hb1 ha1
  go_wp2_with fail
  refine HC2.mono ?_
  rintro e w2 ⟨⟨c2, rfl, hc3, hc4⟩, hb2, ha2⟩
  have HB2 : Hid (Below lo w w2 ∧ Above hi w w2) := ⟨HB1.out.1.trans hb2, HB1.out.2.trans ha2⟩
  clear HC2 hb2 ha2 HB1 q3
  go_wp2_with fail
  go_ret
  exact ⟨⟨c2, rfl, hc3, by omega⟩, HB2.out.1, HB2.out.2⟩
end Go.Proofs.YtaphofdcoddopaaGreatDoor
/-
  An entry whose lists are its own: marked, held.
-/
namespace Go.Proofs.YtaphofdcoddopaaGreatDoor
open Go.ChangeShapes Go.WideShapes Go.ChangeAt Go.RowKit Go.Sort
def BLV (w : World) (v : Value) (l : List UInt8) : Prop :=
  (v = .slice none 0 0 ∧ l = []) ∨ ∃ g cap, v = .slice (some ⟨g, 0, none⟩) l.length cap ∧ g < w.heap.size ∧ BAt w g 0 l ∧ ∀ o, w.frozen? ⟨g, o, none⟩ = false
theorem RowB.lv {w : World} {base : Nat} {v : Value} {l : List UInt8} (h : RowB w base v l) : BLV w v l ∧ ∀ b, v.ownBlock = some b → base ≤ b := by
  have h0 := h
  obtain ⟨_, h1 | ⟨g, c, cur, rfl, hg, hh, _⟩⟩ := h
  · have e : l = [] := List.eq_nil_of_length_eq_zero h1.2
    exact ⟨.inl ⟨h1.1, e⟩, fun b hb => by rw [h1.1] at hb; cases hb⟩
  · refine ⟨.inr ⟨g, c, rfl, (Array.getElem?_eq_some_iff.1 hh).1, fun i q hq => ?_, fun o => ?_⟩, fun b hb => ?_⟩
    · have hi := (List.getElem?_eq_some_iff.1 hq).1
      have c1 := World.ownsRow.cellAt h0 i (by omega)
      rw [Nat.zero_add, c1]
      unfold cBytes
      rw [List.getElem?_map, hq]
      rfl
    · simp [World.frozen?, hh]
    · simp only [Value.ownBlock, Option.some.injEq] at hb; omega
theorem RowT.lv {w : World} {base : Nat} {v : Value} {l : List ByteArray} (h : RowT w base v l) : TLV w v l ∧ ∀ b, v.ownBlock = some b → base ≤ b := by
  have h0 := h
  obtain ⟨_, h1 | ⟨g, c, cur, rfl, hg, hh, _⟩⟩ := h
  · have e : l = [] := List.eq_nil_of_length_eq_zero h1.2
    exact ⟨.inl ⟨h1.1, e⟩, fun b hb => by rw [h1.1] at hb; cases hb⟩
  · refine ⟨.inr ⟨g, c, rfl, (Array.getElem?_eq_some_iff.1 hh).1, fun i q hq => ?_, fun o => ?_⟩, fun b hb => ?_⟩
    · have hi := (List.getElem?_eq_some_iff.1 hq).1
      have c1 := World.ownsRow.cellAt h0 i (by omega)
      rw [Nat.zero_add, c1]
      unfold cTexts
      rw [List.getElem?_map, hq]
      rfl
    · simp [World.frozen?, hh]
    · simp only [Value.ownBlock, Option.some.injEq] at hb; omega
theorem RowH.lv {w : World} {base : Nat} {v : Value} {l : List Hdr} (h : RowH w base v l) : HLV w v l ∧ ∀ b, v.ownBlock = some b → base ≤ b := OwnH.lv h
theorem BLV.below {w w' : World} {v : Value} {l : List UInt8} (h : BLV w v l) (hb : Below w.heap.size w w') : BLV w' v l := by
  rcases h with h | ⟨g, c, e, hg, hi, hf⟩
  · exact .inl h
  · exact .inr ⟨g, c, e, Nat.lt_of_lt_of_le hg hb.size, hi.keep hb, fun o => by rw [hb.frozen (p := ⟨g, o, none⟩) hg, hf]⟩
theorem BLV.av {w w' : World} {v v1 : Value} {l : List UInt8} (h : BLV w v1 l) (k : HAV v w w') (hne : ∀ b, v1.ownBlock = some b → v.ownBlock ≠ some b) : BLV w' v1 l := by
  rcases h with h | ⟨g, c, rfl, hg, hi, hf⟩
  · exact .inl h
  · have hn := hne g rfl
    exact .inr ⟨g, c, rfl, Nat.lt_of_lt_of_le hg k.size, fun i r hr => by rw [k.cell g _ hg hn]; exact hi i r hr, fun o => by rw [k.frozen g o hg hn, hf]⟩
theorem MarkB.hav {w w' : World} {v u : Value} {k n : Nat} (h : MarkB w v k n) (ha : HAV u w w') (hne : ∀ b, v.ownBlock = some b → u.ownBlock ≠ some b) : MarkB w' v k n := by
  rcases h with h | ⟨g, c, rfl, hg, hc⟩
  · exact .inl h
  · exact .inr ⟨g, c, rfl, Nat.lt_of_lt_of_le hg ha.size, fun i hi => by rw [ha.cell g i hg (hne g rfl)]; exact hc i hi⟩
/-! ### from any number on -/
theorem markHeaderS_lvk (w : World) (v : Value) (l : List Hdr) (k : Nat) (hk0 : 1 ≤ k) (hk : k ≤ 100000000000000) (hl : l.length ≤ 1048576) (h : HLV w v l) (base : Nat) (hb : ∀ b, v.ownBlock = some b → base ≤ b) (hbs : base ≤ w.heap.size) :
    Calls Tryz.prog 83 #[v, .int .i64 (k : Int)] w fun e w' => e = .returned (.int .i64 ((k + 2 * l.length : Nat) : Int)) ∧ HLV w' v (mkHL k l.length) ∧ HAV v w w' ∧ Below base w w' := by
  rcases h with ⟨rfl, rfl⟩ | ⟨g, c, rfl, hg, hi, hf⟩
  · exact (markHeaderS_nil w none 0 k).mono fun _ _ ⟨h1, h2⟩ => ⟨h1, .inl ⟨rfl, rfl⟩, .below h2, h2.mono hbs⟩
  · refine (markHeaderS_any w g 0 c l.length k l rfl hl hk0 hk hi hf hg).mono ?_
    rintro e w' ⟨h1, h2, h3, h4, h5⟩
    have hne : ∀ b, (Value.slice (some ⟨g, 0, none⟩) l.length c).ownBlock ≠ some b → b ≠ g := fun b hb e => hb (by subst e; rfl)
    refine ⟨h1, ?_, ⟨h3.size, fun b o hb hn => h3.cell b o hb (hne b hn), fun b o hb hn => h3.frozen b o hb (hne b hn)⟩, h4.mono (hb g rfl)⟩
    exact .inr ⟨g, c, by rw [mkHL_len], Nat.lt_of_lt_of_le hg h3.size, h2, h5⟩
theorem markStringS_lvk (w : World) (v : Value) (l : List ByteArray) (k : Nat) (hk0 : 1 ≤ k) (hk : k ≤ 100000000000000) (hl : l.length ≤ 1048576) (h : TLV w v l) (base : Nat) (hb : ∀ b, v.ownBlock = some b → base ≤ b) (hbs : base ≤ w.heap.size) :
    Calls Tryz.prog 85 #[v, .int .i64 (k : Int)] w fun e w' => e = .returned (.int .i64 ((k + l.length : Nat) : Int)) ∧ TLV w' v (mkTL k l.length) ∧ HAV v w w' ∧ Below base w w' := by
  rcases h with ⟨rfl, rfl⟩ | ⟨g, c, rfl, hg, hi, hf⟩
  · exact (markStringS_nil w none 0 k).mono fun _ _ ⟨h1, h2⟩ => ⟨h1, .inl ⟨rfl, rfl⟩, .below h2, h2.mono hbs⟩
  · refine (markStringS_any w g 0 c l.length k l rfl hl hk0 hk hi hf hg).mono ?_
    rintro e w' ⟨h1, h2, h3, h4, h5⟩
    have hne : ∀ b, (Value.slice (some ⟨g, 0, none⟩) l.length c).ownBlock ≠ some b → b ≠ g := fun b hb e => hb (by subst e; rfl)
    refine ⟨h1, ?_, ⟨h3.size, fun b o hb hn => h3.cell b o hb (hne b hn), fun b o hb hn => h3.frozen b o hb (hne b hn)⟩, h4.mono (hb g rfl)⟩
    exact .inr ⟨g, c, by rw [mkTL_len], Nat.lt_of_lt_of_le hg h3.size, h2, h5⟩
set_option maxHeartbeats 1000000 in
theorem markByteS_nil (w : World) (a : Option Addr) (c k : Nat) :
    Calls Tryz.prog 84 #[.slice a 0 c, .int .i64 (k : Int)] w fun e w' => e = .returned (.int .i64 (k : Int)) ∧ Below w.heap.size w w' := by
  go_enter Tryz.func84, Tryz.ntmps84
  go_wp2_with fail
  go_loop [1, 5] (fun x i => x = .int .i64 (k : Int) ∧ i = .int .i64 0) (fun _ _ => 0)
  case atStart => exact ⟨rfl, rfl⟩
  case round =>
    obtain ⟨rfl, rfl⟩ := hrel
    go_wp2_with fail
    go_ret
    exact ⟨rfl, Below.refl _ _⟩
set_option maxHeartbeats 1000000 in
theorem heldByteS_nil (w : World) (a : Option Addr) (c k : Nat) :
    Calls Tryz.prog 136 #[.slice a 0 c, .int .i64 (k : Int)] w fun e w' => e = .returned (.int .i64 (k : Int)) ∧ Below w.heap.size w w' := by
  go_enter Tryz.func136, Tryz.ntmps136
  go_wp2_with fail
  go_loop [1, 5] (fun x i => x = .int .i64 (k : Int) ∧ i = .int .i64 0) (fun _ _ => 0)
  case atStart => exact ⟨rfl, rfl⟩
  case round =>
    obtain ⟨rfl, rfl⟩ := hrel
    go_wp2_with fail
    go_ret
    exact ⟨rfl, Below.refl _ _⟩
theorem markByteS_lvk (w : World) (v : Value) (l : List UInt8) (k : Nat) (hk : k ≤ 100000000000000) (hl : l.length ≤ 1048576) (h : BLV w v l) (base : Nat) (hb : ∀ b, v.ownBlock = some b → base ≤ b) (hbs : base ≤ w.heap.size) :
    Calls Tryz.prog 84 #[v, .int .i64 (k : Int)] w fun e w' => e = .returned (.int .i64 ((k + l.length : Nat) : Int)) ∧ MarkB w' v k l.length ∧ HAV v w w' ∧ Below base w w' := by
  rcases h with ⟨rfl, rfl⟩ | ⟨g, c, rfl, hg, hi, hf⟩
  · exact (markByteS_nil w none 0 k).mono fun _ _ ⟨h1, h2⟩ => ⟨h1, .inl rfl, .below h2, h2.mono hbs⟩
  · refine (markByteS_row w g l.length c k base hl hk (hb g rfl) hg ?_).mono ?_
    · intro j hj
      have := hi j l[j] (List.getElem?_eq_getElem hj)
      rw [Nat.zero_add] at this
      exact ⟨⟨_, this⟩, hf j⟩
    · rintro e w' ⟨h1, h2, h3, h4⟩
      exact ⟨h1, h2, ⟨Nat.le_of_eq h3.size.symm, h3.cell, fun b o _ _ => h3.frozen b o⟩, h4⟩
theorem heldHeaderS_lvk (w : World) (v : Value) (n k : Nat) (hk0 : 1 ≤ k) (hk : k ≤ 100000000000000) (hl : n ≤ 1048576) (h : HLV w v (mkHL k n)) :
    Calls Tryz.prog 135 #[v, .int .i64 (k : Int)] w fun e w' => e = .returned (.int .i64 ((k + 2 * n : Nat) : Int)) ∧ Below w.heap.size w w' := by
  rcases h with ⟨rfl, h0⟩ | ⟨g, c, rfl, _, hi, _⟩
  · have e := congrArg List.length h0
    rw [mkHL_len] at e
    simp at e
    subst e
    exact heldHeaderS_nil w none 0 k
  · rw [mkHL_len]
    exact heldHeaderS_any w g 0 c n k hl hk0 hk hi
theorem heldStringS_lvk (w : World) (v : Value) (n k : Nat) (hk0 : 1 ≤ k) (hk : k ≤ 100000000000000) (hl : n ≤ 1048576) (h : TLV w v (mkTL k n)) :
    Calls Tryz.prog 86 #[v, .int .i64 (k : Int)] w fun e w' => e = .returned (.int .i64 ((k + n : Nat) : Int)) ∧ Below w.heap.size w w' := by
  rcases h with ⟨rfl, h0⟩ | ⟨g, c, rfl, _, hi, _⟩
  · have e := congrArg List.length h0
    rw [mkTL_len] at e
    simp at e
    subst e
    exact heldStringS_nil w none 0 k
  · rw [mkTL_len]
    exact heldStringS_any w g 0 c n k hl hk0 hk hi
theorem heldByteS_lvk (w : World) (a : Option Addr) (n c k : Nat) (hk : k ≤ 100000000000000) (hl : n ≤ 1048576) (h : MarkB w (.slice a n c) k n) :
    Calls Tryz.prog 136 #[.slice a n c, .int .i64 (k : Int)] w fun e w' => e = .returned (.int .i64 ((k + n : Nat) : Int)) ∧ Below w.heap.size w w' := by
  rcases h with rfl | ⟨g, c', e, _, hc⟩
  · exact heldByteS_nil w a c k
  · simp only [Value.slice.injEq] at e
    obtain ⟨rfl, _, rfl⟩ := e
    exact (heldByteS_row w g n c k hl hk hc).mono fun _ _ ⟨h1, h2⟩ => ⟨h1, h2 ▸ Below.refl _ _⟩
/-! ### an entry -/
structure EntLV (w : World) (base : Nat) (x : Ent) (r : EntR) : Prop where
  h : HLV w (.slice r.ha x.hs.length r.hc) x.hs
  b : BLV w (.slice r.ba x.bl.length r.bc) x.bl
  t : TLV w (.slice r.ta x.ts.length r.tc) x.ts
  gh : ∀ g, (Value.slice r.ha x.hs.length r.hc).ownBlock = some g → base ≤ g
  gb : ∀ g, (Value.slice r.ba x.bl.length r.bc).ownBlock = some g → base ≤ g
  gt : ∀ g, (Value.slice r.ta x.ts.length r.tc).ownBlock = some g → base ≤ g
  n1 : ∀ g, (Value.slice r.ha x.hs.length r.hc).ownBlock = some g → (Value.slice r.ba x.bl.length r.bc).ownBlock ≠ some g
  n2 : ∀ g, (Value.slice r.ha x.hs.length r.hc).ownBlock = some g → (Value.slice r.ta x.ts.length r.tc).ownBlock ≠ some g
  n3 : ∀ g, (Value.slice r.ba x.bl.length r.bc).ownBlock = some g → (Value.slice r.ta x.ts.length r.tc).ownBlock ≠ some g
  hc : x.hs.length ≤ r.hc
  bc : x.bl.length ≤ r.bc
  tc : x.ts.length ≤ r.tc
def Flat (v : Value) : Prop := ∃ n c, v = .slice none n c ∨ ∃ g, v = .slice (some ⟨g, 0, none⟩) n c
theorem flat_ne {a b : Option Addr} {n c m d : Nat} (ha : Flat (.slice a n c)) (hb : Flat (.slice b m d)) (h : a = none ∨ a ≠ b) : ∀ g, (Value.slice a n c).ownBlock = some g → (Value.slice b m d).ownBlock ≠ some g := by
  intro g h1 h2
  obtain ⟨_, _, e | ⟨g1, e⟩⟩ := ha
  · simp only [Value.slice.injEq] at e
    obtain ⟨rfl, _⟩ := e
    cases h1
  · obtain ⟨_, _, f | ⟨g2, f⟩⟩ := hb
    · simp only [Value.slice.injEq] at f
      obtain ⟨rfl, _⟩ := f
      cases h2
    · simp only [Value.slice.injEq] at e f
      obtain ⟨rfl, _⟩ := e
      obtain ⟨rfl, _⟩ := f
      simp only [Value.ownBlock, Option.some.injEq] at h1 h2
      subst h1 h2
      rcases h with h | h
      · cases h
      · exact h rfl
theorem HLV.flat {w : World} {v : Value} {l : List Hdr} (h : HLV w v l) : Flat v := by
  rcases h with ⟨rfl, _⟩ | ⟨g, c, rfl, _⟩
  · exact ⟨_, _, .inl rfl⟩
  · exact ⟨_, _, .inr ⟨g, rfl⟩⟩
theorem BLV.flat {w : World} {v : Value} {l : List UInt8} (h : BLV w v l) : Flat v := by
  rcases h with ⟨rfl, _⟩ | ⟨g, c, rfl, _⟩
  · exact ⟨_, _, .inl rfl⟩
  · exact ⟨_, _, .inr ⟨g, rfl⟩⟩
theorem TLV.flat {w : World} {v : Value} {l : List ByteArray} (h : TLV w v l) : Flat v := by
  rcases h with ⟨rfl, _⟩ | ⟨g, c, rfl, _⟩
  · exact ⟨_, _, .inl rfl⟩
  · exact ⟨_, _, .inr ⟨g, rfl⟩⟩
theorem EntRow.lv {w : World} {base : Nat} {x : Ent} {r : EntR} (h : EntRow w base x r) : EntLV w base x r := by
  obtain ⟨h1, g1⟩ := RowH.lv h.h
  obtain ⟨h2, g2⟩ := RowB.lv h.b
  obtain ⟨h3, g3⟩ := RowT.lv h.t
  have i := h.in
  exact ⟨h1, h2, h3, g1, g2, g3, flat_ne h1.flat h2.flat h.n1, flat_ne h1.flat h3.flat h.n2, flat_ne h2.flat h3.flat h.n3, i.hc, i.bc, i.tc⟩
theorem EntLV.below {w w' : World} {base : Nat} {x : Ent} {r : EntR} (h : EntLV w base x r) (hb : Below w.heap.size w w') : EntLV w' base x r :=
  ⟨h.h.below hb, h.b.below hb, h.t.below hb, h.gh, h.gb, h.gt, h.n1, h.n2, h.n3, h.hc, h.bc, h.tc⟩
theorem EntLV.above {w w' : World} {base hi : Nat} {x : Ent} {r : EntR} (h : EntLV w base x r) (k : Above hi w w') (hh : hi ≤ base) : EntLV w' base x r := by
  refine ⟨?_, ?_, ?_, h.gh, h.gb, h.gt, h.n1, h.n2, h.n3, h.hc, h.bc, h.tc⟩
  · have g0 := h.gh
    rcases h.h with h | ⟨g, c, e, hg, hi, hf⟩
    · exact .inl h
    · have hge : base ≤ g := g0 g (by rw [e]; rfl)
      exact .inr ⟨g, c, e, Nat.lt_of_lt_of_le hg k.size, fun i r hr => by rw [k.cell g _ (by omega) hg, k.cell g _ (by omega) hg]; exact hi i r hr, fun o => by rw [k.frozen g o (by omega) hg, hf]⟩
  · have g0 := h.gb
    rcases h.b with h | ⟨g, c, e, hg, hi, hf⟩
    · exact .inl h
    · have hge : base ≤ g := g0 g (by rw [e]; rfl)
      exact .inr ⟨g, c, e, Nat.lt_of_lt_of_le hg k.size, fun i r hr => by rw [k.cell g _ (by omega) hg]; exact hi i r hr, fun o => by rw [k.frozen g o (by omega) hg, hf]⟩
  · have g0 := h.gt
    rcases h.t with h | ⟨g, c, e, hg, hi, hf⟩
    · exact .inl h
    · have hge : base ≤ g := g0 g (by rw [e]; rfl)
      exact .inr ⟨g, c, e, Nat.lt_of_lt_of_le hg k.size, fun i r hr => by rw [k.cell g _ (by omega) hg]; exact hi i r hr, fun o => by rw [k.frozen g o (by omega) hg, hf]⟩
theorem EntLV.in {w : World} {base : Nat} {x : Ent} {r : EntR} (h : EntLV w base x r) : EntIn w x r := by
  refine ⟨?_, ?_, ?_, h.hc, h.bc, h.tc⟩
  · rcases h.h with ⟨_, e⟩ | ⟨g, c, e, hg, hi, hf⟩
    · exact .inl e
    · simp only [Value.slice.injEq] at e
      exact .inr ⟨g, 0, e.1, hi⟩
  · rcases h.b with ⟨_, e⟩ | ⟨g, c, e, hg, hi, hf⟩
    · exact .inl e
    · simp only [Value.slice.injEq] at e
      exact .inr ⟨g, 0, e.1, hi⟩
  · rcases h.t with ⟨_, e⟩ | ⟨g, c, e, hg, hi, hf⟩
    · exact .inl e
    · simp only [Value.slice.injEq] at e
      exact .inr ⟨g, 0, e.1, hi⟩
/-- What an entry's lists hold once they were marked. -/
structure EntHeld (w : World) (x : Ent) (r : EntR) : Prop where
  h : HLV w (.slice r.ha x.hs.length r.hc) (mkHL 1 x.hs.length)
  b : MarkB w (.slice r.ba x.bl.length r.bc) (1 + 2 * x.hs.length) x.bl.length
  t : TLV w (.slice r.ta x.ts.length r.tc) (mkTL (1 + 2 * x.hs.length + x.bl.length) x.ts.length)
theorem EntHeld.below {w w' : World} {x : Ent} {r : EntR} (h : EntHeld w x r) (hb : Below w.heap.size w w') : EntHeld w' x r := ⟨h.h.below hb, h.b.keep hb, h.t.below hb⟩
theorem HAV.above {v : Value} {hi : Nat} {w w' : World} (h : HAV v w w') (hv : ∀ g, v.ownBlock = some g → g < hi) : Above hi w w' :=
  ⟨h.size, fun b o h1 h2 => h.cell b o h2 (fun e => by have := hv b e; omega), fun b o h1 h2 => h.frozen b o h2 (fun e => by have := hv b e; omega)⟩
theorem BLV.block_lt {w : World} {v : Value} {l : List UInt8} (h : BLV w v l) : ∀ b, v.ownBlock = some b → b < w.heap.size := by
  rcases h with ⟨rfl, _⟩ | ⟨g, c, rfl, hg, _⟩
  · intro b hb; cases hb
  · intro b hb; simp only [Value.ownBlock, Option.some.injEq] at hb; omega
structure EntLt (hi : Nat) (x : Ent) (r : EntR) : Prop where
  h : ∀ g, (Value.slice r.ha x.hs.length r.hc).ownBlock = some g → g < hi
  b : ∀ g, (Value.slice r.ba x.bl.length r.bc).ownBlock = some g → g < hi
  t : ∀ g, (Value.slice r.ta x.ts.length r.tc).ownBlock = some g → g < hi
theorem EntLV.lts {w : World} {base : Nat} {x : Ent} {r : EntR} (h : EntLV w base x r) : EntLt w.heap.size x r := ⟨HLV.block_lt h.h, h.b.block_lt, h.t.block_lt⟩
theorem markLists (W : World) (base hi : Nat) (x : Ent) (r : EntR) (f1 : x.hs.length ≤ 1048576) (f2 : x.bl.length ≤ 1048576) (f3 : x.ts.length ≤ 1048576) (hw : base ≤ W.heap.size) (h : EntLV W base x r) (h0 : EntLt hi x r) :
    Calls Tryz.prog 83 #[.slice r.ha x.hs.length r.hc, .int .i64 1] W fun e w1 => e = .returned (.int .i64 ((1 + 2 * x.hs.length : Nat) : Int)) ∧ (Below base W w1 ∧ Above hi W w1) ∧ 
    Calls Tryz.prog 84 #[.slice r.ba x.bl.length r.bc, .int .i64 ((1 + 2 * x.hs.length : Nat) : Int)] w1 fun e w2 => e = .returned (.int .i64 ((1 + 2 * x.hs.length + x.bl.length : Nat) : Int)) ∧ (Below base w1 w2 ∧ Above hi w1 w2) ∧ 
    Calls Tryz.prog 85 #[.slice r.ta x.ts.length r.tc, .int .i64 ((1 + 2 * x.hs.length + x.bl.length : Nat) : Int)] w2 fun e w3 => e = .returned (.int .i64 ((1 + 2 * x.hs.length + x.bl.length + x.ts.length : Nat) : Int)) ∧ (Below base w2 w3 ∧ Above hi w2 w3) ∧ EntHeld w3 x r := by
  have ne : ∀ {u v : Value}, (∀ g, u.ownBlock = some g → v.ownBlock ≠ some g) → ∀ g, v.ownBlock = some g → u.ownBlock ≠ some g := fun hh g h1 h2 => hh g h2 h1
  refine (markHeaderS_lvk W _ x.hs 1 (by omega) (by omega) f1 h.h base h.gh (by omega)).mono ?_
  rintro e w1 ⟨rfl, a1, v1, b1⟩
  refine ⟨rfl, ⟨b1, v1.above h0.h⟩, ?_⟩
  have s1 := b1.size
  refine (markByteS_lvk w1 _ x.bl _ (by omega) f2 (h.b.av v1 (ne h.n1)) base h.gb (by omega)).mono ?_
  rintro e w2 ⟨rfl, a2, v2, b2⟩
  refine ⟨rfl, ⟨b2, v2.above h0.b⟩, ?_⟩
  have s2 := b2.size
  refine (markStringS_lvk w2 _ x.ts _ (by omega) (by omega) f3 ((h.t.av v1 (ne h.n2)).av v2 (ne h.n3)) base h.gt (by omega)).mono ?_
  rintro e w3 ⟨rfl, a3, v3, b3⟩
  exact ⟨rfl, ⟨b3, v3.above h0.t⟩, ⟨(a1.av v2 h.n1).av v3 h.n2, a2.hav v3 h.n3, a3⟩⟩
theorem heldLists (w : World) (x : Ent) (r : EntR) (f1 : x.hs.length ≤ 1048576) (f2 : x.bl.length ≤ 1048576) (f3 : x.ts.length ≤ 1048576) (h : EntHeld w x r) :
    Calls Tryz.prog 135 #[.slice r.ha x.hs.length r.hc, .int .i64 1] w fun e w1 => e = .returned (.int .i64 ((1 + 2 * x.hs.length : Nat) : Int)) ∧ Below w.heap.size w w1 ∧
    Calls Tryz.prog 136 #[.slice r.ba x.bl.length r.bc, .int .i64 ((1 + 2 * x.hs.length : Nat) : Int)] w1 fun e w2 => e = .returned (.int .i64 ((1 + 2 * x.hs.length + x.bl.length : Nat) : Int)) ∧ Below w1.heap.size w1 w2 ∧
    Calls Tryz.prog 86 #[.slice r.ta x.ts.length r.tc, .int .i64 ((1 + 2 * x.hs.length + x.bl.length : Nat) : Int)] w2 fun e w3 => e = .returned (.int .i64 ((1 + 2 * x.hs.length + x.bl.length + x.ts.length : Nat) : Int)) ∧ Below w2.heap.size w2 w3 := by
  refine (heldHeaderS_lvk w _ x.hs.length 1 (by omega) (by omega) f1 h.h).mono ?_
  rintro e w1 ⟨rfl, b1⟩
  refine ⟨rfl, b1, ?_⟩
  have h1 := h.below b1
  refine (heldByteS_lvk w1 _ _ _ _ (by omega) f2 h1.b).mono ?_
  rintro e w2 ⟨rfl, b2⟩
  refine ⟨rfl, b2, ?_⟩
  have h2 := h1.below b2
  exact heldStringS_lvk w2 _ _ _ (by omega) (by omega) f3 h2.t
end Go.Proofs.YtaphofdcoddopaaGreatDoor
/-
  Entries of one's own, their lists with them: no two share memory.
-/
namespace Go.Proofs.YtaphofdcoddopaaGreatDoor
open Go.ChangeShapes Go.WideShapes Go.ChangeAt Go.RowKit Go.Sort
/-- The blocks of an entry's lists. -/
def rblk (r : EntR) : List Nat := r.ha.toList.map Addr.block ++ (r.ba.toList.map Addr.block ++ r.ta.toList.map Addr.block)
theorem EntLV.nd {w : World} {base : Nat} {x : Ent} {r : EntR} (h : EntLV w base x r) : (rblk r).Nodup := by
  have n1 := h.n1
  have n2 := h.n2
  have n3 := h.n3
  obtain ⟨ha, hc, ba, bc, ta, tc⟩ := r
  clear h
  cases ha <;> cases ba <;> cases ta <;> simp [rblk, Value.ownBlock] at n1 n2 n3 ⊢ <;> omega
theorem mem_rblk {r : EntR} {b : Nat} (h : b ∈ rblk r) : (∃ p, r.ha = some p ∧ p.block = b) ∨ (∃ p, r.ba = some p ∧ p.block = b) ∨ (∃ p, r.ta = some p ∧ p.block = b) := by
  simpa [rblk] using h
theorem EntLt.mem {hi : Nat} {x : Ent} {r : EntR} (h : EntLt hi x r) {b : Nat} (hb : b ∈ rblk r) : b < hi := by
  rcases mem_rblk hb with ⟨p, e, rfl⟩ | ⟨p, e, rfl⟩ | ⟨p, e, rfl⟩
  · exact h.h _ (by rw [e]; rfl)
  · exact h.b _ (by rw [e]; rfl)
  · exact h.t _ (by rw [e]; rfl)
theorem EntLV.ge {w : World} {base : Nat} {x : Ent} {r : EntR} (h : EntLV w base x r) {b : Nat} (hb : b ∈ rblk r) : base ≤ b := by
  rcases mem_rblk hb with ⟨p, e, rfl⟩ | ⟨p, e, rfl⟩ | ⟨p, e, rfl⟩
  · exact h.gh _ (by rw [e]; rfl)
  · exact h.gb _ (by rw [e]; rfl)
  · exact h.gt _ (by rw [e]; rfl)
theorem EntLV.lower {w : World} {base b0 : Nat} {x : Ent} {r : EntR} (h : EntLV w base x r) (hb : b0 ≤ base) : EntLV w b0 x r :=
  ⟨h.h, h.b, h.t, fun g e => Nat.le_trans hb (h.gh g e), fun g e => Nat.le_trans hb (h.gb g e), fun g e => Nat.le_trans hb (h.gt g e), h.n1, h.n2, h.n3, h.hc, h.bc, h.tc⟩
theorem EntLV.far {w w' : World} {base : Nat} {x : Ent} {r : EntR} (h : EntLV w base x r) (hs : w.heap.size ≤ w'.heap.size) (hc : ∀ b ∈ rblk r, b < w.heap.size → ∀ o, w'.cell? ⟨b, o, none⟩ = w.cell? ⟨b, o, none⟩ ∧ w'.frozen? ⟨b, o, none⟩ = w.frozen? ⟨b, o, none⟩) : EntLV w' base x r := by
  refine ⟨?_, ?_, ?_, h.gh, h.gb, h.gt, h.n1, h.n2, h.n3, h.hc, h.bc, h.tc⟩
  · rcases h.h with h | ⟨g, c, e, hg, hi, hf⟩
    · exact .inl h
    · have hm : g ∈ rblk r := by simp only [Value.slice.injEq] at e; simp [rblk, e.1]
      exact .inr ⟨g, c, e, Nat.lt_of_lt_of_le hg hs, fun i r hr => by rw [(hc g hm hg _).1, (hc g hm hg _).1]; exact hi i r hr, fun o => by rw [(hc g hm hg o).2, hf]⟩
  · rcases h.b with h | ⟨g, c, e, hg, hi, hf⟩
    · exact .inl h
    · have hm : g ∈ rblk r := by simp only [Value.slice.injEq] at e; simp [rblk, e.1]
      exact .inr ⟨g, c, e, Nat.lt_of_lt_of_le hg hs, fun i r hr => by rw [(hc g hm hg _).1]; exact hi i r hr, fun o => by rw [(hc g hm hg o).2, hf]⟩
  · rcases h.t with h | ⟨g, c, e, hg, hi, hf⟩
    · exact .inl h
    · have hm : g ∈ rblk r := by simp only [Value.slice.injEq] at e; simp [rblk, e.1]
      exact .inr ⟨g, c, e, Nat.lt_of_lt_of_le hg hs, fun i r hr => by rw [(hc g hm hg _).1]; exact hi i r hr, fun o => by rw [(hc g hm hg o).2, hf]⟩
def foot (l : List (Ent × EntR)) : List Nat := l.flatMap fun q => rblk q.2
theorem foot_app (l m : List (Ent × EntR)) : foot (l ++ m) = foot l ++ foot m := by simp [foot]
theorem foot_one (q : Ent × EntR) : foot [q] = rblk q.2 := by simp [foot]
/-- v holds the entries l; all of it is its holder's own, from block base on. -/
structure EntsO (w : World) (base : Nat) (v : Value) (l : List (Ent × EntR)) : Prop where
  own : OwnE w base v l
  rows : ∀ q ∈ l, EntLV w base q.1 q.2
  nd : (v.ownBlock.toList ++ foot l).Nodup
theorem EntsO.below {w w' : World} {base : Nat} {v : Value} {l : List (Ent × EntR)} (h : EntsO w base v l) (hb : Below w.heap.size w w') : EntsO w' base v l :=
  ⟨h.own.below hb, fun q hq => (h.rows q hq).below hb, h.nd⟩
theorem EntsO.lt {w : World} {base : Nat} {v : Value} {l : List (Ent × EntR)} (h : EntsO w base v l) {b : Nat} (hb : b ∈ v.ownBlock.toList ++ foot l) : b < w.heap.size := by
  rcases List.mem_append.1 hb with hb | hb
  · simp only [Option.mem_toList] at hb
    exact (World.ownsRow.lt h.own b hb).2
  · obtain ⟨q, hq, hb⟩ := List.mem_flatMap.1 hb
    exact (h.rows q hq).lts.mem hb
theorem EntsO.nil (w : World) (base : Nat) (hb : base ≤ w.heap.size) : EntsO (w.alloc (.cells #[] 54)) base (.slice (some ⟨w.heap.size, 0, none⟩) 0 0) [] :=
  ⟨OwnE.made0 w base hb, fun q hq => by simp at hq, by simp [foot, Value.ownBlock]⟩
theorem EntsO.app {w1 w2 w3 : World} {base H0 g cap : Nat} {v : Value} {m : List (Ent × EntR)} {x : Ent} {r : EntR} (h : EntsO w1 base v m) (hx : EntLV w1 H0 x r) (hH : base ≤ H0) (hlt : ∀ b ∈ v.ownBlock.toList ++ foot m, b < H0) (h12 : Below w1.heap.size w1 w2)
    (hrow : w3.ownsRow base 54 13 (.slice (some ⟨g, 0, none⟩) (m.length + 1) cap) (m.length + 1) (entsW m ++ entW x r)) (hg : w2.grownBy w3 v.ownBlock) (hs : w2.heap.size ≤ w3.heap.size) (hv : v.ownBlock = some g ∨ g = w2.heap.size) : EntsO w3 base (.slice (some ⟨g, 0, none⟩) (m.length + 1) cap) (m ++ [(x, r)]) := by
  have nd := List.nodup_append.1 h.nd
  have far : ∀ b, b < w2.heap.size → v.ownBlock ≠ some b → ∀ o, w3.cell? ⟨b, o, none⟩ = w2.cell? ⟨b, o, none⟩ ∧ w3.frozen? ⟨b, o, none⟩ = w2.frozen? ⟨b, o, none⟩ := fun b hb hne o => ⟨hg.cell_far ⟨b, o, none⟩ hb hne.symm, hg.frozen_far ⟨b, o, none⟩ hb hne.symm⟩
  have s12 := h12.size
  refine ⟨?_, ?_, ?_⟩
  · unfold OwnE
    rw [entsW_app]
    simpa [entsW] using hrow
  · intro q hq
    rcases List.mem_append.1 hq with hq | hq
    · refine ((h.rows q hq).below h12).far hs fun b hb hb2 => far b hb2 fun e => ?_
      exact nd.2.2 b (by simp [e]) b (List.mem_flatMap.2 ⟨q, hq, hb⟩) rfl
    · simp only [List.mem_singleton] at hq
      subst hq
      refine ((hx.lower hH).below h12).far hs fun b hb hb2 => far b hb2 fun e => ?_
      have := hx.ge hb
      have := hlt b (List.mem_append.2 (.inl (by simp [e])))
      omega
  · rw [foot_app, foot_one]
    have hgb : g ∉ foot m ++ rblk r := by
      intro hm
      rcases List.mem_append.1 hm with hm | hm
      · rcases hv with hv | rfl
        · exact nd.2.2 g (by simp [hv]) g hm rfl
        · have := h.lt (List.mem_append.2 (.inr hm))
          omega
      · rcases hv with hv | rfl
        · have := hx.ge hm
          have := hlt g (List.mem_append.2 (.inl (by simp [hv])))
          omega
        · have := hx.lts.mem hm
          omega
    have hnd : (foot m ++ rblk r).Nodup := List.nodup_append.2 ⟨nd.2.1, hx.nd, fun a ha b hb e => by
      subst e
      have := hx.ge hb
      have := hlt a (List.mem_append.2 (.inr ha))
      omega⟩
    show ([g] ++ (foot m ++ rblk r)).Nodup
    exact List.nodup_cons.2 ⟨hgb, hnd⟩
end Go.Proofs.YtaphofdcoddopaaGreatDoor
/-
  Entries copied, by the model.
-/
namespace Go.Proofs.YtaphofdcoddopaaGreatDoor
open Go.ChangeShapes Go.WideShapes Go.ChangeAt Go.RowKit Go.Sort
theorem entW_cells (w : World) (x : Ent) (r : EntR) (t : TypeId) : ∀ j u, (entW x r)[j]? = some u → (w.alloc (.cells #[.string x.key, .int .i64 x.st, .slice r.ha x.hs.length r.hc, .slice r.ba x.bl.length r.bc, .int .i64 x.t, .int .i64 x.g, .int .i64 x.l, .int .i64 x.s, .int .i64 x.e, .bool x.b1, .bool x.b2, .slice r.ta x.ts.length r.tc, .int .i64 x.pins] t)).cell? ((⟨w.heap.size, 0, none⟩ : Addr).add j) = some u := by
  intro j u hj
  have e := E13.new w (.string x.key) (.int .i64 x.st) (.slice r.ha x.hs.length r.hc) (.slice r.ba x.bl.length r.bc) (.int .i64 x.t) (.int .i64 x.g) (.int .i64 x.l) (.int .i64 x.s) (.int .i64 x.e) (.bool x.b1) (.bool x.b2) (.slice r.ta x.ts.length r.tc) (.int .i64 x.pins) t
  have hlt : j < 13 := by have := (List.getElem?_eq_some_iff.1 hj).1; rw [entW_len] at this; exact this
  rw [cadd, Nat.zero_add]
  have : j = 0 ∨ j = 1 ∨ j = 2 ∨ j = 3 ∨ j = 4 ∨ j = 5 ∨ j = 6 ∨ j = 7 ∨ j = 8 ∨ j = 9 ∨ j = 10 ∨ j = 11 ∨ j = 12 := by omega
  rcases this with rfl | rfl | rfl | rfl | rfl | rfl | rfl | rfl | rfl | rfl | rfl | rfl | rfl
  · exact e.c0.trans hj
  · exact e.c1.trans hj
  · exact e.c2.trans hj
  · exact e.c3.trans hj
  · exact e.c4.trans hj
  · exact e.c5.trans hj
  · exact e.c6.trans hj
  · exact e.c7.trans hj
  · exact e.c8.trans hj
  · exact e.c9.trans hj
  · exact e.c10.trans hj
  · exact e.c11.trans hj
  · exact e.c12.trans hj
theorem entW_one (x : Ent) (r : EntR) : ∀ u ∈ entW x r, u.oneCell' = true := fun u hu => entsW_one [(x, r)] u (by simpa [entsW] using hu)
theorem take_next {α : Type} {l : List α} {k : Nat} {q : α} (h : l[k]? = some q) : l.take (k + 1) = l.take k ++ [q] := by
  rw [List.take_add_one, h]; rfl
set_option maxRecDepth 100000 in
set_option maxHeartbeats 8000000 in
theorem l8Copies_any (w : World) (a : Option Addr) (cap : Nat) (l : List (Ent × EntR)) (hl : l.length ≤ 1048576) (hf : ∀ q ∈ l, EntFit q.1) (hi : EntsIn w a l) :
    Calls Tryz.prog 115 #[.slice a l.length cap] w fun e w' => (∃ v m, e = .returned v ∧ m.map Prod.fst = l.map Prod.fst ∧ EntsO w' w.heap.size v m) ∧ Below w.heap.size w w' := by
  obtain ⟨i0, hi0, hz0, hz1, hz2⟩ := info_parts infoEntry
  have HI : Hid (EntsIn w a l) := hi
  have HC : Hid (∀ k q, l[k]? = some q → ∃ b off, a = some ⟨b, off, none⟩ ∧ ∀ X, Below w.heap.size w X → Calls Tryz.prog 105 #[.pointer (some ⟨b, off + k * 13, none⟩)] X fun e w' => (∃ r, e = .returned (.agg #[.string q.1.key, .int .i64 q.1.st, .slice r.ha q.1.hs.length r.hc, .slice r.ba q.1.bl.length r.bc, .int .i64 q.1.t, .int .i64 q.1.g, .int .i64 q.1.l, .int .i64 q.1.s, .int .i64 q.1.e, .bool q.1.b1, .bool q.1.b2, .slice r.ta q.1.ts.length r.tc, .int .i64 q.1.pins]) ∧ EntLV w' X.heap.size q.1 r) ∧ Below X.heap.size X w') := fun k q hq => by
    rcases hi with rfl | ⟨b, off, rfl, ha⟩
    · simp at hq
    · refine ⟨b, off, rfl, fun X hX => ?_⟩
      have hfq := hf q (List.mem_of_getElem? hq)
      have hk := (ha.keep hX) k q hq
      refine (l8ECopy_at X ⟨b, off + k * 13, q.1, q.2⟩ hfq.h hfq.b hfq.t ⟨hk.1, hk.2⟩).mono ?_
      rintro e w' ⟨⟨r, rfl, hr⟩, hb⟩
      exact ⟨⟨r, rfl, hr.lv⟩, hb⟩
  have HS : Hid (∃ m : List (Ent × EntR), m.map Prod.fst = (l.take 0).map Prod.fst ∧ EntsO (w.alloc (.cells #[] 54)) w.heap.size (.slice (some ⟨w.heap.size, 0, none⟩) 0 0) m ∧ Below w.heap.size w (w.alloc (.cells #[] 54))) := ⟨[], by simp, EntsO.nil w _ (Nat.le_refl _), (Below.refl _ _).alloc (Nat.le_refl _) _⟩
  clear hi hf
  obtain ⟨n, hn0⟩ : ∃ n, l.length = n := ⟨_, rfl⟩
  rw [hn0] at hl ⊢
  have HN : Hid (l.length = n) := hn0
  clear hn0
  go_enter Tryz.func115, Tryz.ntmps115
  go_wp2_with fail
  go_loopw [3, 4] (fun v i wr => ∃ k : Nat, k ≤ n ∧ i = .int .i64 (k : Int) ∧ ∃ m : List (Ent × EntR), m.map Prod.fst = (l.take k).map Prod.fst ∧ EntsO wr w.heap.size v m ∧ Below w.heap.size w wr) (fun _ i _ => n - (intOf i).toNat)
  case atStart => exact ⟨0, Nat.zero_le _, rfl, HS.out⟩
  case round =>
    obtain ⟨k, hk, rfl, m, hm, ho, hb⟩ := hrel
    clear HS
    by_cases hlt : k < n
    · obtain ⟨q, hq⟩ : ∃ r, l[k]? = some r := ⟨l[k]'(by have := HN.out; omega), List.getElem?_eq_getElem _⟩
      have hml : m.length = k := by
        have := congrArg List.length hm
        rw [List.length_map, List.length_map, List.length_take] at this
        have := HN.out
        omega
      obtain ⟨b, off, rfl, hc⟩ := HC.out k q hq
      obtain ⟨va, vc, rfl, hvc⟩ := row_form ho.own
      rw [hml] at ho hvc ⊢
      have HQ : Hid (l[k]? = some q ∧ m.map Prod.fst = (l.take k).map Prod.fst ∧ m.length = k ∧ EntsO wr w.heap.size (.slice va k vc) m ∧ Below w.heap.size w wr) := ⟨hq, hm, hml, ho, hb⟩
      have CC := hc wr hb
      obtain ⟨x, hx⟩ : ∃ x, q.1 = x := ⟨_, rfl⟩
      have HX : Hid (q.1 = x) := hx
      rw [hx] at CC
      have gk : (k : Int) < n := by omega
      have gk0 : (0 : Int) ≤ k := by omega
      have cal : (⟨b, off, none⟩ : Addr).add (k * 13) = ⟨b, off + k * 13, none⟩ := cadd _ _ _
      clear hc hq hm hml ho hb hx
      go_wp2_with fail
      refine CC.mono ?_
      rintro e w1 ⟨⟨r, rfl, hr⟩, hb1⟩
      have O1 := HQ.out.2.2.2.1.below hb1
      have s1 := hb1.size
      have K2 : Below w1.heap.size w1 (w1.alloc (.cells #[.string x.key, .int .i64 x.st, .slice r.ha x.hs.length r.hc, .slice r.ba x.bl.length r.bc, .int .i64 x.t, .int .i64 x.g, .int .i64 x.l, .int .i64 x.s, .int .i64 x.e, .bool x.b1, .bool x.b2, .slice r.ta x.ts.length r.tc, .int .i64 x.pins] 54)) := (Below.refl _ _).alloc (Nat.le_refl _) _
      have O2 : Hid ((w1.alloc (.cells #[.string x.key, .int .i64 x.st, .slice r.ha x.hs.length r.hc, .slice r.ba x.bl.length r.bc, .int .i64 x.t, .int .i64 x.g, .int .i64 x.l, .int .i64 x.s, .int .i64 x.e, .bool x.b1, .bool x.b2, .slice r.ta x.ts.length r.tc, .int .i64 x.pins] 54)).ownsRow w.heap.size 54 13 (.slice va k vc) k (entsW m)) := by
        have := (O1.below K2).own
        unfold OwnE at this
        rw [HQ.out.2.2.1] at this
        exact this
      have s2 : Hid (w.heap.size ≤ (w1.alloc (.cells #[.string x.key, .int .i64 x.st, .slice r.ha x.hs.length r.hc, .slice r.ba x.bl.length r.bc, .int .i64 x.t, .int .i64 x.g, .int .i64 x.l, .int .i64 x.s, .int .i64 x.e, .bool x.b1, .bool x.b2, .slice r.ta x.ts.length r.tc, .int .i64 x.pins] 54)).heap.size) := by show _ ≤ _; have := K2.size; have := HQ.out.2.2.2.2.size; omega
      have HA : Hid (∀ g cap w3, w3.ownsRow w.heap.size 54 13 (.slice (some ⟨g, 0, none⟩) (k + 1) cap) (k + 1) (entsW m ++ entW x r) → (w1.alloc (.cells #[.string x.key, .int .i64 x.st, .slice r.ha x.hs.length r.hc, .slice r.ba x.bl.length r.bc, .int .i64 x.t, .int .i64 x.g, .int .i64 x.l, .int .i64 x.s, .int .i64 x.e, .bool x.b1, .bool x.b2, .slice r.ta x.ts.length r.tc, .int .i64 x.pins] 54)).grownBy w3 (Value.slice va k vc).ownBlock → ((Value.slice va k vc).ownBlock = some g ∨ g = (w1.alloc (.cells #[.string x.key, .int .i64 x.st, .slice r.ha x.hs.length r.hc, .slice r.ba x.bl.length r.bc, .int .i64 x.t, .int .i64 x.g, .int .i64 x.l, .int .i64 x.s, .int .i64 x.e, .bool x.b1, .bool x.b2, .slice r.ta x.ts.length r.tc, .int .i64 x.pins] 54)).heap.size) → ∃ m' : List (Ent × EntR), m'.map Prod.fst = (l.take (k + 1)).map Prod.fst ∧ EntsO w3 w.heap.size (.slice (some ⟨g, 0, none⟩) (k + 1) cap) m' ∧ Below w.heap.size w w3) := fun g cap w3 h1 h2 h3 => by
        obtain ⟨hq, hm, hml, ho, hb⟩ := HQ.out
        have hbase := hb.size
        have hB : Below w.heap.size (w1.alloc (.cells #[.string x.key, .int .i64 x.st, .slice r.ha x.hs.length r.hc, .slice r.ba x.bl.length r.bc, .int .i64 x.t, .int .i64 x.g, .int .i64 x.l, .int .i64 x.s, .int .i64 x.e, .bool x.b1, .bool x.b2, .slice r.ta x.ts.length r.tc, .int .i64 x.pins] 54)) w3 := (Below.refl _ _).grown h2 s2.out (fun q hq => row_ge O2.out q hq)
        refine ⟨m ++ [(x, r)], ?_, ?_, (hb.trans ((hb1.trans (K2.mono s1)).mono hbase)).trans hB⟩
        · rw [List.map_append, take_next hq, List.map_append, hm]
          simp [HX.out]
        · have := EntsO.app (g := g) (cap := cap) O1 hr hbase (fun b hb => ho.lt hb) K2 (by rw [hml]; exact h1) h2 hB.size h3
          rw [hml] at this
          exact this
      have HW : Hid (∀ j u, (entW x r)[j]? = some u → (w1.alloc (.cells #[.string x.key, .int .i64 x.st, .slice r.ha x.hs.length r.hc, .slice r.ba x.bl.length r.bc, .int .i64 x.t, .int .i64 x.g, .int .i64 x.l, .int .i64 x.s, .int .i64 x.e, .bool x.b1, .bool x.b2, .slice r.ta x.ts.length r.tc, .int .i64 x.pins] 54)).cell? ((⟨w1.heap.size, 0, none⟩ : Addr).add j) = some u) := entW_cells w1 x r _
      clear CC O1 K2 hr hb1 s1
      go_wp2_with (at_builtin; refine wpList_append_lies _ rfl (.tmp 12) (.tmp 17) 26 rfl w.heap.size 54 i0 _ 13 152 Tryz.underlying26 hi0 hz0 hz1 hz2 rfl (by omega) _ k (entsW m) rfl O2.out _ 1 1 (entW x r) rfl rfl HW.out (entW_one x r) (by omega) (by unfold maxLen; omega) (by omega) s2.out _ rfl ?_; intro g cp w3 h1 h2 h3 h4)
      go_roundw
      case rel => exact ⟨k + 1, by omega, by go_num, HA.out _ _ _ h1 h2 h3⟩
      case measure => simp [intOf]; omega
    · have ek : k = n := by omega
      subst ek
      obtain ⟨va, vc, rfl, _⟩ := row_form ho.own
      have HE : Hid ((∃ v' m', Ending.returned (.slice va m.length vc) = .returned v' ∧ m'.map Prod.fst = l.map Prod.fst ∧ EntsO wr w.heap.size v' m') ∧ Below w.heap.size w wr) := ⟨⟨_, m, rfl, by rw [hm, List.take_of_length_le (by have := HN.out; omega)], ho⟩, hb⟩
      clear hm ho hb HC
      go_wp2_with fail
      go_ret
      exact HE.out
end Go.Proofs.YtaphofdcoddopaaGreatDoor
/-
  A store copied, by the model.
-/
namespace Go.Proofs.YtaphofdcoddopaaGreatDoor
open Go.ChangeShapes Go.WideShapes Go.ChangeAt Go.RowKit Go.Sort
/-- Two lists of one's own that share no memory. -/
structure StoO (w : World) (base : Nat) (v1 v2 : Value) (l1 l2 : List (Ent × EntR)) : Prop where
  t : EntsO w base v1 l1
  k : EntsO w base v2 l2
  nd : ∀ b ∈ v1.ownBlock.toList ++ foot l1, b ∉ v2.ownBlock.toList ++ foot l2
theorem StoO.below {w w' : World} {base : Nat} {v1 v2 : Value} {l1 l2 : List (Ent × EntR)} (h : StoO w base v1 v2 l1 l2) (hb : Below w.heap.size w w') : StoO w' base v1 v2 l1 l2 := ⟨h.t.below hb, h.k.below hb, h.nd⟩
theorem EntsO.ge {w : World} {base : Nat} {v : Value} {l : List (Ent × EntR)} (h : EntsO w base v l) {b : Nat} (hb : b ∈ v.ownBlock.toList ++ foot l) : base ≤ b := by
  rcases List.mem_append.1 hb with hb | hb
  · simp only [Option.mem_toList] at hb
    exact (World.ownsRow.lt h.own b hb).1
  · obtain ⟨q, hq, hb⟩ := List.mem_flatMap.1 hb
    exact (h.rows q hq).ge hb
theorem EntsO.lower {w : World} {base b0 : Nat} {v : Value} {l : List (Ent × EntR)} (h : EntsO w base v l) (hb : b0 ≤ base) : EntsO w b0 v l := ⟨h.own.lower hb, fun q hq => (h.rows q hq).lower hb, h.nd⟩
theorem OwnE.off1 {w : World} {base : Nat} {v : Value} {l : List (Ent × EntR)} (h : OwnE w base v l) {b i : Nat} (u : Value) (hb : b < base) : OwnE (w.setCell ⟨b, i, none⟩ u) base v l := row_off h u hb
theorem EntsO.off1 {w : World} {base : Nat} {v : Value} {l : List (Ent × EntR)} (h : EntsO w base v l) {b i : Nat} (u : Value) (hb : b < base) : EntsO (w.setCell ⟨b, i, none⟩ u) base v l :=
  ⟨h.own.off1 u hb, fun q hq => (h.rows q hq).far (by simp) fun b' hb' _ o => by
    have := (h.rows q hq).ge hb'
    exact ⟨World.cell?_setCell_other _ _ _ _ (by intro e; have := congrArg Addr.block e; simp at this; omega), World.frozen?_setCell _ _ _ _⟩, h.nd⟩
theorem StoO.off1 {w : World} {base : Nat} {v1 v2 : Value} {l1 l2 : List (Ent × EntR)} (h : StoO w base v1 v2 l1 l2) {b i : Nat} (u : Value) (hb : b < base) : StoO (w.setCell ⟨b, i, none⟩ u) base v1 v2 l1 l2 := ⟨h.t.off1 u hb, h.k.off1 u hb, h.nd⟩
theorem StoO.lower {w : World} {base b0 : Nat} {v1 v2 : Value} {l1 l2 : List (Ent × EntR)} (h : StoO w base v1 v2 l1 l2) (hb : b0 ≤ base) : StoO w b0 v1 v2 l1 l2 := ⟨h.t.lower hb, h.k.lower hb, h.nd⟩
theorem StoO.two {w w' : World} {base b2 : Nat} {v1 v2 : Value} {l1 l2 : List (Ent × EntR)} (h : EntsO w base v1 l1) (k : EntsO w' b2 v2 l2) (hb : Below w.heap.size w w') (h2 : w.heap.size ≤ b2) (hbase : base ≤ w.heap.size) : StoO w' base v1 v2 l1 l2 :=
  ⟨h.below hb, k.lower (by omega), fun b h1 h3 => by have := h.lt h1; have := k.ge h3; omega⟩
theorem StoO.two' {w w' : World} {base b2 : Nat} {v1 v2 : Value} {l1 l2 : List (Ent × EntR)} (h : EntsO w base v2 l2) (k : EntsO w' b2 v1 l1) (hb : Below w.heap.size w w') (h2 : w.heap.size ≤ b2) (hbase : base ≤ w.heap.size) : StoO w' base v1 v2 l1 l2 :=
  ⟨k.lower (by omega), h.below hb, fun b h1 h3 => by have := h.lt h3; have := k.ge h1; omega⟩
set_option maxRecDepth 100000 in
set_option maxHeartbeats 16000000 in
theorem l8Copy_at (w : World) (B : Nat) (bu gu : Int) (ta ka : Option Addr) (tc kc : Nat) (tl kl : List (Ent × EntR)) (hc : w.cell? ⟨B, 0, none⟩ = some (.int .i64 bu) ∧ w.cell? ⟨B, 1, none⟩ = some (.int .i64 gu) ∧ w.cell? ⟨B, 2, none⟩ = some (.slice ta tl.length tc) ∧ w.cell? ⟨B, 3, none⟩ = some (.slice ka kl.length kc)) (hB : B < w.heap.size) (hl : tl.length ≤ 1048576) (hk : kl.length ≤ 1048576) (f1 : ∀ q ∈ tl, EntFit q.1) (f2 : ∀ q ∈ kl, EntFit q.1) (ht : EntsIn w ta tl) (hq : EntsIn w ka kl) :
    Calls Tryz.prog 70 #[.pointer (some ⟨B, 0, none⟩)] w fun e w' => (∃ v1 v2 m1 m2, e = .returned (.agg #[.int .i64 bu, .int .i64 gu, v1, v2]) ∧ m1.map Prod.fst = tl.map Prod.fst ∧ m2.map Prod.fst = kl.map Prod.fst ∧ StoO w' w.heap.size v1 v2 m1 m2) ∧ Below w.heap.size w w' := by
  have C1 : Hid (∀ X, Below w.heap.size w X → Calls Tryz.prog 115 #[.slice ta tl.length tc] X fun e w' => (∃ v m, e = .returned v ∧ m.map Prod.fst = tl.map Prod.fst ∧ EntsO w' X.heap.size v m) ∧ Below X.heap.size X w') := fun X hX => l8Copies_any X ta tc tl hl f1 (ht.keep hX)
  have C2 : Hid (∀ X, Below w.heap.size w X → Calls Tryz.prog 115 #[.slice ka kl.length kc] X fun e w' => (∃ v m, e = .returned v ∧ m.map Prod.fst = kl.map Prod.fst ∧ EntsO w' X.heap.size v m) ∧ Below X.heap.size X w') := fun X hX => l8Copies_any X ka kc kl hk f2 (hq.keep hX)
  generalize tl.length = tn at *
  generalize kl.length = kn at *
  obtain ⟨W, hW⟩ : ∃ W, W = w.alloc (.cells #[.int .i64 0, .int .i64 0, .slice none 0 0, .slice none 0 0] 28) := ⟨_, rfl⟩
  have HW : Hid (W = w.alloc (.cells #[.int .i64 0, .int .i64 0, .slice none 0 0, .slice none 0 0] 28)) := hW
  have HKS : Hid (∀ X, Below w.heap.size w X → X.cell? ⟨B, 0, none⟩ = some (.int .i64 bu) ∧ X.cell? ⟨B, 1, none⟩ = some (.int .i64 gu) ∧ X.cell? ⟨B, 2, none⟩ = some (.slice ta tn tc) ∧ X.cell? ⟨B, 3, none⟩ = some (.slice ka kn kc)) := fun X hX => ⟨by rw [hX.cell (p := ⟨B, 0, none⟩) hB]; exact hc.1, by rw [hX.cell (p := ⟨B, 1, none⟩) hB]; exact hc.2.1, by rw [hX.cell (p := ⟨B, 2, none⟩) hB]; exact hc.2.2.1, by rw [hX.cell (p := ⟨B, 3, none⟩) hB]; exact hc.2.2.2⟩
  have X0 : Hid (Below w.heap.size w W.drew ∧ S4 W.drew w.heap.size (.int .i64 0) (.int .i64 0) (.slice none 0 0) (.slice none 0 0) ∧ w.heap.size + 1 ≤ W.drew.heap.size) := by
    have b : Below w.heap.size w W := by rw [hW]; exact (Below.refl _ _).alloc (Nat.le_refl _) _
    have s : S4 W w.heap.size (.int .i64 0) (.int .i64 0) (.slice none 0 0) (.slice none 0 0) := by rw [hW]; exact S4.new w _ _ _ _ _
    have b' : Below W.heap.size W W.drew := (Below.refl _ _).drew
    exact ⟨b.trans (b'.mono b.size), s.keep b', by have := s.lt; have := b'.size; omega⟩
  clear hW hc hB hl hk f1 f2 ht hq
  go_enter Tryz.func70, Tryz.ntmps70
  go_wp2_with fail
  rw [← HW.out]
  clear HW
  go_region_held3 (fun X => X.cell? ⟨B, 0, none⟩ = some (.int .i64 bu) ∧ X.cell? ⟨B, 1, none⟩ = some (.int .i64 gu) ∧ X.cell? ⟨B, 2, none⟩ = some (.slice ta tn tc) ∧ X.cell? ⟨B, 3, none⟩ = some (.slice ka kn kc))
    (first | ((with_reducible refine HKS.out _ ?_); (with_reducible exact ZB.out.2)) | ((with_reducible refine HKS.out _ ?_); (with_reducible exact XB.out)) | ((with_reducible refine HKS.out _ ?_); (with_reducible exact XA.out.1)) | ((with_reducible refine HKS.out _ ?_); (with_reducible exact X0.out.1)))
    (first
    | (go_at_call 115; have hO1 := O1; refine (C2.out wa XA.out.1).mono ?_; rintro e0 wb ⟨⟨v2, m2, rfl, q2, o2⟩, hbb⟩; obtain ⟨a2, k2, rfl, _⟩ := row_form o2.own; generalize m2.length = n2 at *; have HSO : Hid (∃ m1 m2, m1.map Prod.fst = tl.map Prod.fst ∧ m2.map Prod.fst = kl.map Prod.fst ∧ StoO wb (w.heap.size + 1) (.slice a1 n1 k1) (.slice a2 n2 k2) m1 m2) := (by obtain ⟨m1, q1, o1⟩ := O1.out; exact ⟨m1, m2, q1, q2, StoO.two o1 o2 hbb (Nat.le_refl _) XA.out.2.2⟩); have SB : S4 wb w.heap.size (.int .i64 0) (.int .i64 0) (.slice none 0 0) (.slice none 0 0) := XA.out.2.1.keep hbb; have zf0 := SB.fr 0; have zf1 := SB.fr 1; have zf2 := SB.fr 2; have zf3 := SB.fr 3; have z0 := SB.c0; have z1 := SB.c1; have z2 := SB.c2; have z3 := SB.c3; have ZB : Hid ((∃ m1 m2, m1.map Prod.fst = tl.map Prod.fst ∧ m2.map Prod.fst = kl.map Prod.fst ∧ StoO (((((wb).setCell ⟨w.heap.size, 0, none⟩ (.int .i64 bu)).setCell ⟨w.heap.size, 1, none⟩ (.int .i64 gu)).setCell ⟨w.heap.size, 2, none⟩ (.slice a1 n1 k1)).setCell ⟨w.heap.size, 3, none⟩ (.slice a2 n2 k2)) w.heap.size (.slice a1 n1 k1) (.slice a2 n2 k2) m1 m2) ∧ Below w.heap.size w (((((wb).setCell ⟨w.heap.size, 0, none⟩ (.int .i64 bu)).setCell ⟨w.heap.size, 1, none⟩ (.int .i64 gu)).setCell ⟨w.heap.size, 2, none⟩ (.slice a1 n1 k1)).setCell ⟨w.heap.size, 3, none⟩ (.slice a2 n2 k2))) := (by obtain ⟨m1, m2, q1, q2, o⟩ := HSO.out; exact ⟨⟨m1, m2, q1, q2, ((((o.off1 _ (by omega)).off1 _ (by omega)).off1 _ (by omega)).off1 _ (by omega)).lower (by omega)⟩, ((((XA.out.1.trans (hbb.mono XA.out.1.size)).setCell (Nat.le_refl _) _).setCell (Nat.le_refl _) _).setCell (Nat.le_refl _) _).setCell (Nat.le_refl _) _⟩); have XB : Hid (Below w.heap.size w wb) := XA.out.1.trans (hbb.mono XA.out.1.size); clear hbb o2 q2 SB HSO hO1)
    | (go_at_call 115; refine (C1.out W.drew X0.out.1).mono ?_; rintro e0 wa ⟨⟨v1, m1, rfl, q1, o1⟩, hba⟩; obtain ⟨a1, k1, rfl, _⟩ := row_form o1.own; generalize m1.length = n1 at *; have O1 : Hid (∃ m1, m1.map Prod.fst = tl.map Prod.fst ∧ EntsO wa (w.heap.size + 1) (.slice a1 n1 k1) m1) := ⟨m1, q1, o1.lower X0.out.2.2⟩; have XA : Hid (Below w.heap.size w wa ∧ S4 wa w.heap.size (.int .i64 0) (.int .i64 0) (.slice none 0 0) (.slice none 0 0) ∧ w.heap.size + 1 ≤ wa.heap.size) := ⟨X0.out.1.trans (hba.mono X0.out.1.size), X0.out.2.1.keep hba, Nat.le_trans X0.out.2.2 hba.size⟩; clear hba o1 q1))
  all_goals
    clear HKS X0 C1 C2 O1 XA
    go_wp2_with fail
    have HFIN : Hid ((∃ v1 v2 m1 m2, Ending.returned (.agg #[.int .i64 bu, .int .i64 gu, .slice a1 n1 k1, .slice a2 n2 k2]) = .returned (.agg #[.int .i64 bu, .int .i64 gu, v1, v2]) ∧ m1.map Prod.fst = tl.map Prod.fst ∧ m2.map Prod.fst = kl.map Prod.fst ∧ StoO (((((wb).setCell ⟨w.heap.size, 0, none⟩ (.int .i64 bu)).setCell ⟨w.heap.size, 1, none⟩ (.int .i64 gu)).setCell ⟨w.heap.size, 2, none⟩ (.slice a1 n1 k1)).setCell ⟨w.heap.size, 3, none⟩ (.slice a2 n2 k2)) w.heap.size v1 v2 m1 m2) ∧ Below w.heap.size w (((((wb).setCell ⟨w.heap.size, 0, none⟩ (.int .i64 bu)).setCell ⟨w.heap.size, 1, none⟩ (.int .i64 gu)).setCell ⟨w.heap.size, 2, none⟩ (.slice a1 n1 k1)).setCell ⟨w.heap.size, 3, none⟩ (.slice a2 n2 k2))) := by
      obtain ⟨⟨m1, m2, q1, q2, o⟩, b⟩ := ZB.out
      exact ⟨⟨_, _, m1, m2, rfl, q1, q2, o⟩, b⟩
    exact bodyPost_ret (v := .agg #[.int .i64 bu, .int .i64 gu, .slice a1 n1 k1, .slice a2 n2 k2]) (by simp [results, Tryz.results70, go_sem, z0, z1, z2, z3]) rfl HFIN.out
end Go.Proofs.YtaphofdcoddopaaGreatDoor
/-
  A key taken out of a list, by the model.
-/
namespace Go.Proofs.YtaphofdcoddopaaGreatDoor
open Go.ChangeShapes Go.WideShapes Go.ChangeAt Go.RowKit Go.Sort
def offKey (key : ByteArray) (l : List (Ent × EntR)) : List (Ent × EntR) := l.filter fun q => !isKey key q.1
theorem offKey_next {key : ByteArray} {l : List (Ent × EntR)} {k : Nat} {q : Ent × EntR} (h : l[k]? = some q) : offKey key (l.take (k + 1)) = if isKey key q.1 then offKey key (l.take k) else offKey key (l.take k) ++ [q] := by
  unfold offKey
  rw [take_next h, List.filter_append]
  cases hk : isKey key q.1 <;> simp [hk]
theorem foot_sub {l m : List (Ent × EntR)} (h : l.Sublist m) : (foot l).Sublist (foot m) := by
  induction h with
  | slnil => exact .slnil
  | cons a _ ih => exact ih.trans (List.sublist_append_right _ _)
  | cons_cons a _ ih => exact (List.Sublist.refl _).append ih
theorem offKey_len (key : ByteArray) (l : List (Ent × EntR)) : (offKey key l).length ≤ l.length := List.length_filter_le _ _
set_option maxRecDepth 100000 in
set_option maxHeartbeats 8000000 in
theorem l8Without_any (w : World) (a : Option Addr) (cap : Nat) (l : List (Ent × EntR)) (key : ByteArray) (hl : l.length ≤ 1048576) (hi : EntsIn w a l) :
    Calls Tryz.prog 96 #[.slice a l.length cap, .string key] w fun e w' => (∃ v, e = .returned v ∧ OwnE w' w.heap.size v (offKey key l)) ∧ Below w.heap.size w w' := by
  obtain ⟨i0, hi0, hz0, hz1, hz2⟩ := info_parts infoEntry
  have HI : Hid (EntsIn w a l) := hi
  have HS : Hid (OwnE (w.alloc (.cells #[] 54)) w.heap.size (.slice (some ⟨w.heap.size, 0, none⟩) 0 0) (offKey key (l.take 0)) ∧ Below w.heap.size w (w.alloc (.cells #[] 54))) := ⟨OwnE.made0 w _ (Nat.le_refl _), (Below.refl _ _).alloc (Nat.le_refl _) _⟩
  clear hi
  obtain ⟨n, hn0⟩ : ∃ n, l.length = n := ⟨_, rfl⟩
  rw [hn0] at hl ⊢
  have HN : Hid (l.length = n) := hn0
  clear hn0
  go_enter Tryz.func96, Tryz.ntmps96
  go_wp2_with fail
  go_loopw [5, 6] (fun v i wr => ∃ k : Nat, k ≤ n ∧ i = .int .i64 (k : Int) ∧ OwnE wr w.heap.size v (offKey key (l.take k)) ∧ Below w.heap.size w wr) (fun _ i _ => n - (intOf i).toNat)
  case atStart => exact ⟨0, Nat.zero_le _, rfl, HS.out⟩
  case round =>
    obtain ⟨k, hk, rfl, ho, hb⟩ := hrel
    clear HS
    by_cases hlt : k < n
    · obtain ⟨⟨x, r⟩, hr⟩ : ∃ r, l[k]? = some r := ⟨l[k]'(by have := HN.out; omega), List.getElem?_eq_getElem _⟩
      rcases HI.out with h | ⟨b, off, rfl, hat⟩
      · subst h; simp at hr
      obtain ⟨p0, p1, p2, p3, p4, p5, p6, p7, p8, p9, p10, p11, p12⟩ := (hat.keep hb).cells hr
      have gk : (k : Int) < n := by omega
      have gk0 : (0 : Int) ≤ k := by omega
      have hnx := offKey_next (key := key) hr
      have hln : (offKey key (l.take k)).length ≤ 1048576 := by have := offKey_len key (l.take k); rw [List.length_take] at this; have := HN.out; omega
      obtain ⟨m, hm⟩ : ∃ m, m = offKey key (l.take k) := ⟨_, rfl⟩
      rw [← hm] at ho hnx hln
      obtain ⟨va, vc, rfl, hvc⟩ := row_form ho
      have HO : Hid (OwnE wr w.heap.size (.slice va m.length vc) m) := ho
      have HB : Hid (Below w.heap.size w wr) := hb
      clear hat hr hm ho hb
      cases he : (x.key.toList == key.toList)
      · rw [if_neg (by show ¬ (x.key.toList == key.toList) = true; rw [he]; decide)] at hnx
        have K2 : Below wr.heap.size wr (wr.alloc (.cells #[.string x.key, .int .i64 x.st, .slice r.ha x.hs.length r.hc, .slice r.ba x.bl.length r.bc, .int .i64 x.t, .int .i64 x.g, .int .i64 x.l, .int .i64 x.s, .int .i64 x.e, .bool x.b1, .bool x.b2, .slice r.ta x.ts.length r.tc, .int .i64 x.pins] 54)) := (Below.refl _ _).alloc (Nat.le_refl _) _
        have O2 : Hid ((wr.alloc (.cells #[.string x.key, .int .i64 x.st, .slice r.ha x.hs.length r.hc, .slice r.ba x.bl.length r.bc, .int .i64 x.t, .int .i64 x.g, .int .i64 x.l, .int .i64 x.s, .int .i64 x.e, .bool x.b1, .bool x.b2, .slice r.ta x.ts.length r.tc, .int .i64 x.pins] 54)).ownsRow w.heap.size 54 13 (.slice va m.length vc) m.length (entsW m)) := HO.out.below K2
        have s2 : Hid (w.heap.size ≤ (wr.alloc (.cells #[.string x.key, .int .i64 x.st, .slice r.ha x.hs.length r.hc, .slice r.ba x.bl.length r.bc, .int .i64 x.t, .int .i64 x.g, .int .i64 x.l, .int .i64 x.s, .int .i64 x.e, .bool x.b1, .bool x.b2, .slice r.ta x.ts.length r.tc, .int .i64 x.pins] 54)).heap.size) := by show _ ≤ _; have := K2.size; have := HB.out.size; omega
        have HA : Hid (∀ g cap w3, w3.ownsRow w.heap.size 54 13 (.slice (some ⟨g, 0, none⟩) (m.length + 1) cap) (m.length + 1) (entsW m ++ entW x r) → (wr.alloc (.cells #[.string x.key, .int .i64 x.st, .slice r.ha x.hs.length r.hc, .slice r.ba x.bl.length r.bc, .int .i64 x.t, .int .i64 x.g, .int .i64 x.l, .int .i64 x.s, .int .i64 x.e, .bool x.b1, .bool x.b2, .slice r.ta x.ts.length r.tc, .int .i64 x.pins] 54)).grownBy w3 (Value.slice va m.length vc).ownBlock → OwnE w3 w.heap.size (.slice (some ⟨g, 0, none⟩) (m.length + 1) cap) (offKey key (l.take (k + 1))) ∧ Below w.heap.size w w3) := fun g cap w3 h1 h2 => by
          have hB : Below w.heap.size (wr.alloc (.cells #[.string x.key, .int .i64 x.st, .slice r.ha x.hs.length r.hc, .slice r.ba x.bl.length r.bc, .int .i64 x.t, .int .i64 x.g, .int .i64 x.l, .int .i64 x.s, .int .i64 x.e, .bool x.b1, .bool x.b2, .slice r.ta x.ts.length r.tc, .int .i64 x.pins] 54)) w3 := (Below.refl _ _).grown h2 s2.out (fun q hq => row_ge O2.out q hq)
          refine ⟨?_, (HB.out.trans (K2.mono HB.out.size)).trans hB⟩
          rw [hnx]
          unfold OwnE
          rw [entsW_app]
          simpa [entsW] using h1
        have HW : Hid (∀ j u, (entW x r)[j]? = some u → (wr.alloc (.cells #[.string x.key, .int .i64 x.st, .slice r.ha x.hs.length r.hc, .slice r.ba x.bl.length r.bc, .int .i64 x.t, .int .i64 x.g, .int .i64 x.l, .int .i64 x.s, .int .i64 x.e, .bool x.b1, .bool x.b2, .slice r.ta x.ts.length r.tc, .int .i64 x.pins] 54)).cell? ((⟨wr.heap.size, 0, none⟩ : Addr).add j) = some u) := entW_cells wr x r _
        obtain ⟨mn, hmn⟩ : ∃ q, m.length = q := ⟨_, rfl⟩
        rw [hmn] at O2 HA hln hvc ⊢
        clear K2 hnx HO HB hmn
        go_wp2_with (at_builtin; refine wpList_append_lies _ rfl (.tmp 21) (.tmp 26) 26 rfl w.heap.size 54 i0 _ 13 152 Tryz.underlying26 hi0 hz0 hz1 hz2 rfl (by omega) _ mn (entsW m) rfl O2.out _ 1 1 (entW x r) rfl rfl HW.out (entW_one x r) (by omega) (by unfold maxLen; omega) (by omega) s2.out _ rfl ?_; intro g cp w3 h1 h2 h3 h4)
        go_roundw
        case rel => exact ⟨k + 1, by omega, by go_num, HA.out _ _ _ h1 h2⟩
        case measure => simp [intOf]; omega
      · rw [if_pos (by show (x.key.toList == key.toList) = true; rw [he])] at hnx
        have HA : Hid (OwnE wr w.heap.size (.slice va m.length vc) (offKey key (l.take (k + 1))) ∧ Below w.heap.size w wr) := ⟨by rw [hnx]; exact HO.out, HB.out⟩
        clear hnx HO HB
        generalize m.length = mn at *
        generalize x.key = xk at *
        go_wp2_with fail
        go_roundw
        case rel => exact ⟨k + 1, by omega, by go_num, HA.out⟩
        case measure => simp [intOf]; omega
    · have ek : k = n := by omega
      subst ek
      obtain ⟨va, vc, rfl, _⟩ := row_form ho
      have HE : Hid ((∃ v', Ending.returned (.slice va (offKey key (l.take k)).length vc) = .returned v' ∧ OwnE wr w.heap.size v' (offKey key l)) ∧ Below w.heap.size w wr) := ⟨⟨_, rfl, by rw [List.take_of_length_le (by have := HN.out; omega)] at ho ⊢; exact ho⟩, hb⟩
      clear ho hb
      go_wp2_with fail
      go_ret
      exact HE.out
theorem EntsO.without {w w' : World} {base : Nat} {v v' : Value} {l : List (Ent × EntR)} {key : ByteArray} (h : EntsO w base v l) (hb : Below w.heap.size w w') (hbase : base ≤ w.heap.size) (ho : OwnE w' w.heap.size v' (offKey key l)) : EntsO w' base v' (offKey key l) := by
  have nd := List.nodup_append.1 h.nd
  have sub : (foot (offKey key l)).Sublist (foot l) := foot_sub List.filter_sublist
  refine ⟨ho.lower hbase, fun q hq => (h.rows q (List.mem_filter.1 hq).1).below hb, List.nodup_append.2 ⟨by cases v'.ownBlock <;> simp, nd.2.1.sublist sub, fun a ha b hb2 e => ?_⟩⟩
  subst e
  simp only [Option.mem_toList] at ha
  have h1 := (World.ownsRow.lt ho a ha).1
  have h2 := h.lt (List.mem_append.2 (.inr (sub.subset hb2)))
  omega
end Go.Proofs.YtaphofdcoddopaaGreatDoor
/-
  A key taken out of a store, by the model.
-/
namespace Go.Proofs.YtaphofdcoddopaaGreatDoor
open Go.ChangeShapes Go.WideShapes Go.ChangeAt Go.RowKit Go.Sort
theorem row_far1 {w : World} {base : Nat} {e : TypeId} {size : Nat} {v : Value} {n : Nat} {xs : List Value} (h : w.ownsRow base e size v n xs) {b i : Nat} (u : Value) (hb : v.ownBlock ≠ some b) : (w.setCell ⟨b, i, none⟩ u).ownsRow base e size v n xs := by
  obtain ⟨h1, h2⟩ := h
  refine ⟨h1, ?_⟩
  rcases h2 with h2 | ⟨g, c, cur, e', hg, hh, hrest⟩
  · exact .inl h2
  · refine .inr ⟨g, c, cur, e', hg, ?_, hrest⟩
    rw [heap_setCell_other w ⟨b, i, none⟩ g u (by intro e2; simp only at e2; subst e2; exact hb (by rw [e']; rfl))]
    exact hh
theorem EntsO.ne {w : World} {base : Nat} {v : Value} {l : List (Ent × EntR)} (h : EntsO w base v l) {b i : Nat} (u : Value) (hb : b ∉ v.ownBlock.toList ++ foot l) : EntsO (w.setCell ⟨b, i, none⟩ u) base v l :=
  ⟨row_far1 h.own u (fun e => hb (List.mem_append.2 (.inl (by simp [e])))), fun q hq => (h.rows q hq).far (by simp) fun b' hb' _ o =>
    ⟨World.cell?_setCell_other _ _ _ _ (by intro e; have := congrArg Addr.block e; simp at this; subst this; exact hb (List.mem_append.2 (.inr (List.mem_flatMap.2 ⟨q, hq, hb'⟩)))), World.frozen?_setCell _ _ _ _⟩, h.nd⟩
theorem EntsO.in {w : World} {base : Nat} {v : Value} {l : List (Ent × EntR)} (h : EntsO w base v l) : ∃ a c, v = .slice a l.length c ∧ l.length ≤ c ∧ EntsIn w a l := h.own.at fun q hq => (h.rows q hq).in
theorem foot_off {key : ByteArray} {l : List (Ent × EntR)} {b : Nat} (h : b ∈ foot (offKey key l)) : b ∈ foot l := (foot_sub List.filter_sublist).subset h
set_option maxRecDepth 100000 in
set_option maxHeartbeats 8000000 in
theorem l8Drop_at (w : World) (B base : Nat) (bu gu : Int) (v1 v2 : Value) (l1 l2 : List (Ent × EntR)) (key : ByteArray) (hs : S4 w B (.int .i64 bu) (.int .i64 gu) v1 v2) (h : StoO w base v1 v2 l1 l2) (hbase : base ≤ w.heap.size) (hB1 : B ∉ v1.ownBlock.toList ++ foot l1) (hB2 : B ∉ v2.ownBlock.toList ++ foot l2) (n1 : l1.length ≤ 1048576) (n2 : l2.length ≤ 1048576) :
    Calls Tryz.prog 49 #[.pointer (some ⟨B, 0, none⟩), .string key] w fun e w' => e = .returned (.tuple #[]) ∧ (∃ u1 u2, S4 w' B (.int .i64 bu) (.int .i64 gu) u1 u2 ∧ StoO w' base u1 u2 (offKey key l1) (offKey key l2) ∧ B ∉ u1.ownBlock.toList ++ foot (offKey key l1) ∧ B ∉ u2.ownBlock.toList ++ foot (offKey key l2)) ∧ Below B w w' := by
  obtain ⟨a1, c1, rfl, _, i1⟩ := h.t.in
  obtain ⟨a2, c2, rfl, _, i2⟩ := h.k.in
  have hBl := hs.lt
  have C1 : Hid (Calls Tryz.prog 96 #[.slice a1 l1.length c1, .string key] w fun e w1 => (∃ u1c u1a u1n, e = .returned (.slice u1a u1n u1c) ∧ (S4 (w1.setCell ⟨B, 2, none⟩ (.slice u1a u1n u1c)) B (.int .i64 bu) (.int .i64 gu) (.slice u1a u1n u1c) (.slice a2 l2.length c2) ∧ w1.cell? ⟨B, 2, none⟩ = some (.slice a1 l1.length c1) ∧ w1.frozen? ⟨B, 2, none⟩ = false ∧ Below B w (w1.setCell ⟨B, 2, none⟩ (.slice u1a u1n u1c)) ∧
      StoO (w1.setCell ⟨B, 2, none⟩ (.slice u1a u1n u1c)) base (.slice u1a u1n u1c) (.slice a2 l2.length c2) (offKey key l1) l2 ∧ base ≤ (w1.setCell ⟨B, 2, none⟩ (.slice u1a u1n u1c)).heap.size ∧ B ∉ (Value.slice u1a u1n u1c).ownBlock.toList ++ foot (offKey key l1)))) := by
    refine (l8Without_any w a1 c1 l1 key n1 i1).mono ?_
    rintro e w1 ⟨⟨u, rfl, ho⟩, hb⟩
    obtain ⟨ua, uc, rfl, _⟩ := row_form ho
    have t1 := h.t.without hb hbase ho
    have k1 := h.k.below hb
    have s1 := hs.keep hb
    have nB : B ∉ (Value.slice ua (offKey key l1).length uc).ownBlock.toList ++ foot (offKey key l1) := fun hm => by
      rcases List.mem_append.1 hm with hm | hm
      · simp only [Option.mem_toList] at hm
        have := (World.ownsRow.lt ho B hm).1
        omega
      · exact hB1 (List.mem_append.2 (.inr (foot_off hm)))
    refine ⟨uc, ua, _, rfl, s1.set2 _, s1.c2, s1.fr 2, (hb.mono (Nat.le_of_lt hBl)).setCell (Nat.le_refl _) _, ⟨t1.ne _ nB, k1.ne _ hB2, fun b h1 h2 => ?_⟩, by have := hb.size; simp; omega, nB⟩
    rcases List.mem_append.1 h1 with h1 | h1
    · simp only [Option.mem_toList] at h1
      have := (World.ownsRow.lt ho b h1).1
      have := h.k.lt h2
      omega
    · exact h.nd b (List.mem_append.2 (.inr (foot_off h1))) h2
  have C2 : Hid (∀ X u1, S4 X B (.int .i64 bu) (.int .i64 gu) u1 (.slice a2 l2.length c2) → Below B w X → StoO X base u1 (.slice a2 l2.length c2) (offKey key l1) l2 → base ≤ X.heap.size → B ∉ u1.ownBlock.toList ++ foot (offKey key l1) → Calls Tryz.prog 96 #[.slice a2 l2.length c2, .string key] X fun e w1 => (∃ u2c u2a u2n, e = .returned (.slice u2a u2n u2c) ∧ (w1.cell? ⟨B, 3, none⟩ = some (.slice a2 l2.length c2) ∧ w1.frozen? ⟨B, 3, none⟩ = false ∧ ((∃ u1 u2, S4 (w1.setCell ⟨B, 3, none⟩ (.slice u2a u2n u2c)) B (.int .i64 bu) (.int .i64 gu) u1 u2 ∧ StoO (w1.setCell ⟨B, 3, none⟩ (.slice u2a u2n u2c)) base u1 u2 (offKey key l1) (offKey key l2) ∧ B ∉ u1.ownBlock.toList ++ foot (offKey key l1) ∧ B ∉ u2.ownBlock.toList ++ foot (offKey key l2)) ∧ Below B w (w1.setCell ⟨B, 3, none⟩ (.slice u2a u2n u2c)))))) := fun X u1 s hX hst hbX nB1 => by
    have hin := hst.k.in
    obtain ⟨a3, c3, e3, _, i3⟩ := hin
    simp only [Value.slice.injEq, true_and] at e3
    obtain ⟨rfl, rfl⟩ := e3
    refine (l8Without_any X a2 c2 l2 key n2 i3).mono ?_
    rintro e w1 ⟨⟨u, rfl, ho⟩, hb⟩
    obtain ⟨ua, uc, rfl, _⟩ := row_form ho
    have k1 := hst.k.without hb hbX ho
    have t1 := hst.t.below hb
    have s1 := s.keep hb
    have sl := s.lt
    have nB : B ∉ (Value.slice ua (offKey key l2).length uc).ownBlock.toList ++ foot (offKey key l2) := fun hm => by
      rcases List.mem_append.1 hm with hm | hm
      · simp only [Option.mem_toList] at hm
        have := (World.ownsRow.lt ho B hm).1
        omega
      · exact hB2 (List.mem_append.2 (.inr (foot_off hm)))
    refine ⟨uc, ua, _, rfl, s1.c3, s1.fr 3, ⟨u1, _, s1.set3 _, ⟨t1.ne _ nB1, k1.ne _ nB, fun b h1 h2 => ?_⟩, nB1, nB⟩, (hX.trans (hb.mono (Nat.le_of_lt sl))).setCell (Nat.le_refl _) _⟩
    rcases List.mem_append.1 h2 with h2 | h2
    · simp only [Option.mem_toList] at h2
      have := (World.ownsRow.lt ho b h2).1
      have := hst.t.lt h1
      omega
    · exact hst.nd b h1 (List.mem_append.2 (.inr (foot_off h2)))
  have e2 := hs.c2
  clear hs h hbase hB1 hB2 n1 n2 i1 i2 hBl
  generalize l1.length = m1 at *
  generalize l2.length = m2 at *
  go_enter Tryz.func49, Tryz.ntmps49
  go_wp2_with fail
  refine C1.out.mono ?_
  rintro e w1 ⟨uc, ua, un, rfl, s1, x2, xf, hb1, st1, sz1, nB1⟩
  have CC := C2.out _ _ s1 hb1 st1 sz1 nB1
  have y3 := s1.c3
  clear C1 C2 s1 hb1 st1 sz1 nB1 e2
  go_wp2_with fail
  refine CC.mono ?_
  rintro e w2 ⟨vc, va, vn, rfl, x3, xf3, hfin, hb2⟩
  have HFIN : Hid _ := hfin
  have HB2 : Hid _ := hb2
  clear hfin hb2 CC y3 x2 xf
  go_wp2_with fail
  exact bodyPost_end (v := .tuple #[]) (by simp [results, Tryz.results49, go_sem]) rfl ⟨rfl, HFIN.out, HB2.out⟩
end Go.Proofs.YtaphofdcoddopaaGreatDoor
/-
  A right store that has a key, copied by the model; or a code.
-/
namespace Go.Proofs.YtaphofdcoddopaaGreatDoor
open Go.ChangeShapes Go.WideShapes Go.ChangeAt Go.RowKit Go.Sort
/-- What l8Ask hands back. -/
def AskOk (c : Int) (bu gu : Int) (tl kl : List Ent) (base : Nat) (e : Ending) (w' : World) : Prop :=
  (c ≠ 0 ∧ e = .returned (.tuple #[.agg #[.int .i64 0, .int .i64 0, .slice none 0 0, .slice none 0 0], .int .i64 c])) ∨ (c = 0 ∧ ∃ a1 k1 n1 a2 k2 n2 m1 m2, e = .returned (.tuple #[.agg #[.int .i64 bu, .int .i64 gu, .slice a1 n1 k1, .slice a2 n2 k2], .int .i64 0]) ∧ m1.map Prod.fst = tl ∧ m2.map Prod.fst = kl ∧ StoO w' base (.slice a1 n1 k1) (.slice a2 n2 k2) m1 m2)
set_option maxRecDepth 100000 in
set_option maxHeartbeats 16000000 in
theorem l8Ask_at (w : World) (B : Nat) (bu gu : Int) (ta ka : Option Addr) (tc kc : Nat) (tl kl : List (Ent × EntR)) (key : ByteArray) (hc : S4 w B (.int .i64 bu) (.int .i64 gu) (.slice ta tl.length tc) (.slice ka kl.length kc)) (hl : tl.length ≤ 1048576) (hk : kl.length ≤ 1048576) (hto : ∀ q ∈ tl ++ kl, EntOk q.1) (hft : ∀ q ∈ tl ++ kl, EntFit q.1) (ht : EntsIn w ta tl) (hq : EntsIn w ka kl) :
    Calls Tryz.prog 48 #[.pointer (some ⟨B, 0, none⟩), .string key] w fun e w' => AskOk (peekR bu gu (tl.map Prod.fst) (kl.map Prod.fst) key).1 bu gu (tl.map Prod.fst) (kl.map Prod.fst) w.heap.size e w' ∧ Below w.heap.size w w' := by
  have HF : Hid (∀ X, Below w.heap.size w X → Calls Tryz.prog 68 #[.agg #[.int .i64 bu, .int .i64 gu, .slice ta tl.length tc, .slice ka kl.length kc]] X fun r w' => r = .returned (.int .i64 (storeC bu gu (tl.map Prod.fst) (kl.map Prod.fst))) ∧ Below X.heap.size X w') := fun X hb => specSto_any X bu gu ta ka tc kc tl kl hl hk hto (ht.keep hb) (hq.keep hb)
  have HP : Hid (storeC bu gu (tl.map Prod.fst) (kl.map Prod.fst) = 0 → ∀ X, Below w.heap.size w X → Calls Tryz.prog 58 #[.pointer (some ⟨B, 0, none⟩), .string key] X fun e w' => ((∃ x r, (tl.map Prod.fst ++ kl.map Prod.fst).find? (isKey key) = some x ∧ e = .returned (.tuple #[entV x r, .bool true])) ∨ ((tl.map Prod.fst ++ kl.map Prod.fst).find? (isKey key) = none ∧ e = .returned (.tuple #[entV zeroEnt zeroR, .bool false]))) ∧ Below X.heap.size X w') := fun h0 X hX => by
    have s := hc.keep hX
    refine (l8Peek_at X B key ta ka tc kc tl kl s.c2 s.c3 (by have := (storeC_zero h0).2.1; rw [List.length_map, List.length_map] at this; omega) (fun q hq' => ⟨(hft q hq').h, (hft q hq').b, (hft q hq').t⟩) (ht.keep hX) (hq.keep hX)).mono ?_
    rintro e w' ⟨⟨x, r, h1, h2, _⟩ | h1, hb⟩
    · exact ⟨.inl ⟨x, r, h1, h2⟩, hb⟩
    · exact ⟨.inr h1, hb⟩
  have HC : Hid (∀ X, Below w.heap.size w X → Calls Tryz.prog 70 #[.pointer (some ⟨B, 0, none⟩)] X fun e w' => (∃ a1 k1 n1 a2 k2 n2 m1 m2, e = .returned (.agg #[.int .i64 bu, .int .i64 gu, .slice a1 n1 k1, .slice a2 n2 k2]) ∧ m1.map Prod.fst = tl.map Prod.fst ∧ m2.map Prod.fst = kl.map Prod.fst ∧ StoO w' X.heap.size (.slice a1 n1 k1) (.slice a2 n2 k2) m1 m2) ∧ Below X.heap.size X w') := fun X hX => by
    have s := hc.keep hX
    refine (l8Copy_at X B bu gu ta ka tc kc tl kl ⟨s.c0, s.c1, s.c2, s.c3⟩ s.lt hl hk (fun q h => hft q (List.mem_append.2 (.inl h))) (fun q h => hft q (List.mem_append.2 (.inr h))) (ht.keep hX) (hq.keep hX)).mono ?_
    rintro e w' ⟨⟨v1, v2, m1, m2, rfl, q1, q2, o⟩, hb⟩
    obtain ⟨a1, k1, rfl, _⟩ := row_form o.t.own
    obtain ⟨a2, k2, rfl, _⟩ := row_form o.k.own
    exact ⟨⟨a1, k1, _, a2, k2, _, m1, m2, rfl, q1, q2, o⟩, hb⟩
  obtain ⟨W, hW⟩ : ∃ W, W = w.alloc (.cells #[.int .i64 0, .int .i64 0, .slice none 0 0, .slice none 0 0] 28) := ⟨_, rfl⟩
  have HW : Hid (W = w.alloc (.cells #[.int .i64 0, .int .i64 0, .slice none 0 0, .slice none 0 0] 28)) := hW
  have K0 : Hid (Below w.heap.size w W ∧ S4 W w.heap.size (.int .i64 0) (.int .i64 0) (.slice none 0 0) (.slice none 0 0)) := by
    rw [hW]; exact ⟨(Below.refl _ _).alloc (Nat.le_refl _) _, S4.new w _ _ _ _ _⟩
  have HS : Hid (∀ X, Below w.heap.size w X → S4 X B (.int .i64 bu) (.int .i64 gu) (.slice ta tl.length tc) (.slice ka kl.length kc)) := fun X hX => hc.keep hX
  have PB := peekR_bad (bu := bu) (gu := gu) (tl := tl.map Prod.fst) (kl := kl.map Prod.fst) (key := key)
  have PN := peekR_none (bu := bu) (gu := gu) (tl := tl.map Prod.fst) (kl := kl.map Prod.fst) (key := key)
  have PS : ∀ x, _ := fun x => peekR_some (bu := bu) (gu := gu) (tl := tl.map Prod.fst) (kl := kl.map Prod.fst) (key := key) (x := x)
  have HPB : Hid _ := PB
  have HPN : Hid _ := PN
  have HPS : Hid _ := PS
  have e0 := (HS.out W K0.out.1).c0
  have e1 := (HS.out W K0.out.1).c1
  have e2 := (HS.out W K0.out.1).c2
  have e3 := (HS.out W K0.out.1).c3
  rw [hW] at e0 e1 e2 e3
  clear hW hc hto hft ht hq hl hk PB PN PS HS
  generalize storeC bu gu (tl.map Prod.fst) (kl.map Prod.fst) = sc at *
  generalize peekR bu gu (tl.map Prod.fst) (kl.map Prod.fst) key = pr at *
  generalize tl.length = tn at *
  generalize kl.length = kn at *
  go_enter Tryz.func48, Tryz.ntmps48
  go_wp2_with fail
  rw [← HW.out]
  refine (HF.out _ K0.out.1).mono ?_
  rintro r0 w1 ⟨rfl, hb1⟩
  have K1 : Hid (Below w.heap.size w w1 ∧ S4 w1 w.heap.size (.int .i64 0) (.int .i64 0) (.slice none 0 0) (.slice none 0 0)) := ⟨K0.out.1.trans (hb1.mono K0.out.1.size), K0.out.2.keep hb1⟩
  clear K0 HW hb1 HF e0 e1 e2 e3
  by_cases cs : sc = 0
  · subst cs
    clear HPB
    go_wp2_with fail
    refine (HP.out (by trivial) _ K1.out.1).mono ?_
    rintro r0 w2 ⟨hcase, hb2⟩
    rcases hcase with ⟨x, r, hx, rfl⟩ | ⟨hx, rfl⟩
    · have hp := HPS.out x (by trivial) hx
      subst hp
      unfold entV entW
      obtain ⟨V2, hV2⟩ : ∃ V, V = w2.alloc (.cells (entW x r).toArray 54) := ⟨_, rfl⟩
      have HV2 : Hid (V2 = w2.alloc (.cells (entW x r).toArray 54)) := hV2
      have K2 : Hid (Below w.heap.size w V2 ∧ S4 V2 w.heap.size (.int .i64 0) (.int .i64 0) (.slice none 0 0) (.slice none 0 0)) := by
        have a2 : Below w2.heap.size w2 V2 := by rw [hV2]; exact (Below.refl _ _).alloc (Nat.le_refl _) _
        have b2 := K1.out.1.trans (hb2.mono K1.out.1.size)
        exact ⟨b2.trans (a2.mono b2.size), (K1.out.2.keep hb2).keep a2⟩
      unfold entW at HV2
      clear hV2 K1 hb2 HP HPN HPS hx
      go_wp2_with fail
      rw [← HV2.out]
      refine (HC.out _ K2.out.1).mono ?_
      rintro r0 w3 ⟨⟨a1, k1, n1, a2, k2, n2, m1, m2, rfl, q1, q2, o⟩, hb3⟩
      have s3 := K2.out.2.keep hb3
      have z0 := s3.c0
      have z1 := s3.c1
      have z2 := s3.c2
      have z3 := s3.c3
      have zf0 := s3.fr 0
      have zf1 := s3.fr 1
      have zf2 := s3.fr 2
      have zf3 := s3.fr 3
      have HFIN : Hid (∀ u0 u1 u2 u3, (∃ m1 m2, m1.map Prod.fst = tl.map Prod.fst ∧ m2.map Prod.fst = kl.map Prod.fst ∧ StoO ((((w3.setCell ⟨w.heap.size, 0, none⟩ u0).setCell ⟨w.heap.size, 1, none⟩ u1).setCell ⟨w.heap.size, 2, none⟩ u2).setCell ⟨w.heap.size, 3, none⟩ u3) w.heap.size (.slice a1 n1 k1) (.slice a2 n2 k2) m1 m2) ∧ Below w.heap.size w ((((w3.setCell ⟨w.heap.size, 0, none⟩ u0).setCell ⟨w.heap.size, 1, none⟩ u1).setCell ⟨w.heap.size, 2, none⟩ u2).setCell ⟨w.heap.size, 3, none⟩ u3)) := fun u0 u1 u2 u3 => by
        have hlt := K2.out.2.lt
        refine ⟨⟨m1, m2, q1, q2, ((((o.off1 _ hlt).off1 _ hlt).off1 _ hlt).off1 _ hlt).lower (Nat.le_of_lt hlt)⟩, ?_⟩
        exact ((((K2.out.1.trans (hb3.mono K2.out.1.size)).setCell (Nat.le_refl _) _).setCell (Nat.le_refl _) _).setCell (Nat.le_refl _) _).setCell (Nat.le_refl _) _
      clear s3 hb3 o q1 q2 K2 HC HV2
      go_wp2_with fail
      refine bodyPost_ret (v := .tuple #[.agg #[.int .i64 bu, .int .i64 gu, .slice a1 n1 k1, .slice a2 n2 k2], .int .i64 0]) (by simp [results, Tryz.results48, go_sem, z0, z1, z2, z3]) rfl ?_
      obtain ⟨⟨m1, m2, q1, q2, o⟩, b⟩ := HFIN.out (.int .i64 bu) (.int .i64 gu) (.slice a1 n1 k1) (.slice a2 n2 k2)
      exact ⟨.inr ⟨rfl, a1, k1, n1, a2, k2, n2, m1, m2, rfl, q1, q2, o⟩, b⟩
    · have hp := HPN.out (by trivial) hx
      subst hp
      unfold entV entW zeroEnt zeroR
      simp only [List.length_nil]
      have s2 := (K1.out.2.keep hb2).keep ((Below.refl w2.heap.size w2).alloc (Nat.le_refl _) (.cells #[.string ⟨#[]⟩, .int .i64 0, .slice none 0 0, .slice none 0 0, .int .i64 0, .int .i64 0, .int .i64 0, .int .i64 0, .int .i64 0, .bool false, .bool false, .slice none 0 0, .int .i64 0] 54))
      have HBB : Hid (Below w.heap.size w (w2.alloc (.cells #[.string ⟨#[]⟩, .int .i64 0, .slice none 0 0, .slice none 0 0, .int .i64 0, .int .i64 0, .int .i64 0, .int .i64 0, .int .i64 0, .bool false, .bool false, .slice none 0 0, .int .i64 0] 54))) := (K1.out.1.trans (hb2.mono K1.out.1.size)).alloc (by have := hb2.size; have := K1.out.1.size; omega) _
      have z0 := s2.c0
      have z1 := s2.c1
      have z2 := s2.c2
      have z3 := s2.c3
      have zf0 := s2.fr 0
      have zf1 := s2.fr 1
      have zf2 := s2.fr 2
      have zf3 := s2.fr 3
      clear s2 K1 hb2 HP HPN HPS HC hx
      go_wp2_with fail
      refine bodyPost_ret (v := .tuple #[.agg #[.int .i64 0, .int .i64 0, .slice none 0 0, .slice none 0 0], .int .i64 4]) (by simp [results, Tryz.results48, go_sem, z0, z1, z2, z3]) rfl ?_
      exact ⟨.inl ⟨by decide, rfl⟩, (((HBB.out.setCell (Nat.le_refl _) _).setCell (Nat.le_refl _) _).setCell (Nat.le_refl _) _).setCell (Nat.le_refl _) _⟩
  · have hp := HPB.out cs
    subst hp
    have z0 := K1.out.2.c0
    have z1 := K1.out.2.c1
    have z2 := K1.out.2.c2
    have z3 := K1.out.2.c3
    have zf0 := K1.out.2.fr 0
    have zf1 := K1.out.2.fr 1
    have zf2 := K1.out.2.fr 2
    have zf3 := K1.out.2.fr 3
    have HB1 : Hid (Below w.heap.size w w1) := K1.out.1
    clear K1 HP HPN HPS HPB HC
    go_wp2_with fail
    refine bodyPost_ret (v := .tuple #[.agg #[.int .i64 0, .int .i64 0, .slice none 0 0, .slice none 0 0], .int .i64 sc]) (by simp [results, Tryz.results48, go_sem, z0, z1, z2, z3]) rfl ?_
    exact ⟨.inl ⟨cs, rfl⟩, (((HB1.out.setCell (Nat.le_refl _) _).setCell (Nat.le_refl _) _).setCell (Nat.le_refl _) _).setCell (Nat.le_refl _) _⟩
end Go.Proofs.YtaphofdcoddopaaGreatDoor
/-
  Five cells that may be written.
-/
namespace Go.Proofs.YtaphofdcoddopaaGreatDoor
open Go.ChangeShapes Go.WideShapes Go.ChangeAt Go.RowKit
structure S5 (w : World) (b : Nat) (v0 v1 v2 v3 v4 : Value) : Prop where
  c0 : w.cell? ⟨b, 0, none⟩ = some v0
  c1 : w.cell? ⟨b, 1, none⟩ = some v1
  c2 : w.cell? ⟨b, 2, none⟩ = some v2
  c3 : w.cell? ⟨b, 3, none⟩ = some v3
  c4 : w.cell? ⟨b, 4, none⟩ = some v4
  fr : ∀ o, w.frozen? ⟨b, o, none⟩ = false
  lt : b < w.heap.size
section
variable {w w' : World} {b : Nat} {v0 v1 v2 v3 v4 : Value}
theorem S5.keep (k : S5 w b v0 v1 v2 v3 v4) (hb : Below w.heap.size w w') : S5 w' b v0 v1 v2 v3 v4 :=
  ⟨by rw [hb.cell (p := ⟨b, 0, none⟩) k.lt]; exact k.c0, by rw [hb.cell (p := ⟨b, 1, none⟩) k.lt]; exact k.c1, by rw [hb.cell (p := ⟨b, 2, none⟩) k.lt]; exact k.c2, by rw [hb.cell (p := ⟨b, 3, none⟩) k.lt]; exact k.c3, by rw [hb.cell (p := ⟨b, 4, none⟩) k.lt]; exact k.c4, fun o => by rw [hb.frozen (p := ⟨b, o, none⟩) k.lt]; exact k.fr o, Nat.lt_of_lt_of_le k.lt hb.size⟩
theorem S5.new (w : World) (v0 v1 v2 v3 v4 : Value) (t : TypeId) : S5 (w.alloc (.cells #[v0, v1, v2, v3, v4] t)) w.heap.size v0 v1 v2 v3 v4 := ⟨by simp, by simp, by simp, by simp, by simp, fun o => by simp, by simp⟩
theorem S5.off (k : S5 w b v0 v1 v2 v3 v4) {B i : Nat} {x : Value} (h : B ≠ b) : S5 (w.setCell ⟨B, i, none⟩ x) b v0 v1 v2 v3 v4 := by
  have ne : ∀ o : Nat, (⟨B, i, none⟩ : Addr) ≠ ⟨b, o, none⟩ := fun o q => h (congrArg Addr.block q)
  exact ⟨by rw [World.cell?_setCell_other _ _ _ _ (ne _)]; exact k.c0, by rw [World.cell?_setCell_other _ _ _ _ (ne _)]; exact k.c1, by rw [World.cell?_setCell_other _ _ _ _ (ne _)]; exact k.c2, by rw [World.cell?_setCell_other _ _ _ _ (ne _)]; exact k.c3, by rw [World.cell?_setCell_other _ _ _ _ (ne _)]; exact k.c4, fun o => by rw [World.frozen?_setCell]; exact k.fr o, by simpa using k.lt⟩
theorem S5.set0 (k : S5 w b v0 v1 v2 v3 v4) (x : Value) : S5 (w.setCell ⟨b, 0, none⟩ x) b x v1 v2 v3 v4 :=
  ⟨World.cell?_setCell_same _ _ _ k.c0, by rw [World.cell?_setCell_other _ _ _ _ (by intro q; have := congrArg Addr.off q; simp at this)]; exact k.c1, by rw [World.cell?_setCell_other _ _ _ _ (by intro q; have := congrArg Addr.off q; simp at this)]; exact k.c2, by rw [World.cell?_setCell_other _ _ _ _ (by intro q; have := congrArg Addr.off q; simp at this)]; exact k.c3, by rw [World.cell?_setCell_other _ _ _ _ (by intro q; have := congrArg Addr.off q; simp at this)]; exact k.c4, fun o => by rw [World.frozen?_setCell]; exact k.fr o, by simpa using k.lt⟩
theorem S5.set1 (k : S5 w b v0 v1 v2 v3 v4) (x : Value) : S5 (w.setCell ⟨b, 1, none⟩ x) b v0 x v2 v3 v4 :=
  ⟨by rw [World.cell?_setCell_other _ _ _ _ (by intro q; have := congrArg Addr.off q; simp at this)]; exact k.c0, World.cell?_setCell_same _ _ _ k.c1, by rw [World.cell?_setCell_other _ _ _ _ (by intro q; have := congrArg Addr.off q; simp at this)]; exact k.c2, by rw [World.cell?_setCell_other _ _ _ _ (by intro q; have := congrArg Addr.off q; simp at this)]; exact k.c3, by rw [World.cell?_setCell_other _ _ _ _ (by intro q; have := congrArg Addr.off q; simp at this)]; exact k.c4, fun o => by rw [World.frozen?_setCell]; exact k.fr o, by simpa using k.lt⟩
theorem S5.set2 (k : S5 w b v0 v1 v2 v3 v4) (x : Value) : S5 (w.setCell ⟨b, 2, none⟩ x) b v0 v1 x v3 v4 :=
  ⟨by rw [World.cell?_setCell_other _ _ _ _ (by intro q; have := congrArg Addr.off q; simp at this)]; exact k.c0, by rw [World.cell?_setCell_other _ _ _ _ (by intro q; have := congrArg Addr.off q; simp at this)]; exact k.c1, World.cell?_setCell_same _ _ _ k.c2, by rw [World.cell?_setCell_other _ _ _ _ (by intro q; have := congrArg Addr.off q; simp at this)]; exact k.c3, by rw [World.cell?_setCell_other _ _ _ _ (by intro q; have := congrArg Addr.off q; simp at this)]; exact k.c4, fun o => by rw [World.frozen?_setCell]; exact k.fr o, by simpa using k.lt⟩
theorem S5.set3 (k : S5 w b v0 v1 v2 v3 v4) (x : Value) : S5 (w.setCell ⟨b, 3, none⟩ x) b v0 v1 v2 x v4 :=
  ⟨by rw [World.cell?_setCell_other _ _ _ _ (by intro q; have := congrArg Addr.off q; simp at this)]; exact k.c0, by rw [World.cell?_setCell_other _ _ _ _ (by intro q; have := congrArg Addr.off q; simp at this)]; exact k.c1, by rw [World.cell?_setCell_other _ _ _ _ (by intro q; have := congrArg Addr.off q; simp at this)]; exact k.c2, World.cell?_setCell_same _ _ _ k.c3, by rw [World.cell?_setCell_other _ _ _ _ (by intro q; have := congrArg Addr.off q; simp at this)]; exact k.c4, fun o => by rw [World.frozen?_setCell]; exact k.fr o, by simpa using k.lt⟩
theorem S5.set4 (k : S5 w b v0 v1 v2 v3 v4) (x : Value) : S5 (w.setCell ⟨b, 4, none⟩ x) b v0 v1 v2 v3 x :=
  ⟨by rw [World.cell?_setCell_other _ _ _ _ (by intro q; have := congrArg Addr.off q; simp at this)]; exact k.c0, by rw [World.cell?_setCell_other _ _ _ _ (by intro q; have := congrArg Addr.off q; simp at this)]; exact k.c1, by rw [World.cell?_setCell_other _ _ _ _ (by intro q; have := congrArg Addr.off q; simp at this)]; exact k.c2, by rw [World.cell?_setCell_other _ _ _ _ (by intro q; have := congrArg Addr.off q; simp at this)]; exact k.c3, World.cell?_setCell_same _ _ _ k.c4, fun o => by rw [World.frozen?_setCell]; exact k.fr o, by simpa using k.lt⟩
end
end Go.Proofs.YtaphofdcoddopaaGreatDoor
/-
  DropEntry, by the model.
-/
namespace Go.Proofs.YtaphofdcoddopaaGreatDoor
open Go.ChangeShapes Go.WideShapes Go.ChangeAt Go.RowKit Go.Sort
/-- A store that is handed back, with its code. -/
def StoRes (c bu gu : Int) (tl kl : List Ent) (base : Nat) (e : Ending) (w' : World) : Prop :=
  ∃ a1 k1 n1 a2 k2 n2 m1 m2, e = .returned (.agg #[.int .i64 c, .int .i64 bu, .int .i64 gu, .slice a1 n1 k1, .slice a2 n2 k2]) ∧ m1.map Prod.fst = tl ∧ m2.map Prod.fst = kl ∧ StoO w' base (.slice a1 n1 k1) (.slice a2 n2 k2) m1 m2
theorem S5.low {w w' : World} {b B : Nat} {v0 v1 v2 v3 v4 : Value} (k : S5 w b v0 v1 v2 v3 v4) (hb : Below B w w') (h : b < B) : S5 w' b v0 v1 v2 v3 v4 :=
  ⟨by rw [hb.cell (p := ⟨b, 0, none⟩) h]; exact k.c0, by rw [hb.cell (p := ⟨b, 1, none⟩) h]; exact k.c1, by rw [hb.cell (p := ⟨b, 2, none⟩) h]; exact k.c2, by rw [hb.cell (p := ⟨b, 3, none⟩) h]; exact k.c3, by rw [hb.cell (p := ⟨b, 4, none⟩) h]; exact k.c4, fun o => by rw [hb.frozen (p := ⟨b, o, none⟩) h]; exact k.fr o, Nat.lt_of_lt_of_le k.lt hb.size⟩
theorem EntsO.none (w : World) (base : Nat) : EntsO w base (.slice none 0 0) [] := ⟨OwnE.nil w base, fun q hq => by simp at hq, by simp [foot, Value.ownBlock]⟩
theorem StoO.none (w : World) (base : Nat) : StoO w base (.slice none 0 0) (.slice none 0 0) [] [] := ⟨.none w base, .none w base, fun b hb => by simp [foot, Value.ownBlock] at hb⟩
theorem offKey_map (key : ByteArray) (m : List (Ent × EntR)) : (offKey key m).map Prod.fst = (m.map Prod.fst).filter fun x => !isKey key x := by
  unfold offKey
  rw [List.filter_map]
  rfl
def dropC (bu gu : Int) (tl kl : List Ent) (key : ByteArray) : Int := (peekR bu gu tl kl key).1
set_option maxRecDepth 100000 in
set_option maxHeartbeats 16000000 in
theorem specDropE_any (w : World) (bu gu : Int) (ta ka : Option Addr) (tc kc : Nat) (tl kl : List (Ent × EntR)) (key : ByteArray) (hl : tl.length ≤ 1048576) (hk : kl.length ≤ 1048576) (hto : ∀ q ∈ tl ++ kl, EntOk q.1) (hft : ∀ q ∈ tl ++ kl, EntFit q.1) (ht : EntsIn w ta tl) (hq : EntsIn w ka kl) :
    Calls Tryz.prog 12 #[.agg #[.int .i64 bu, .int .i64 gu, .slice ta tl.length tc, .slice ka kl.length kc], .string key] w fun e w' => (if (peekR bu gu (tl.map Prod.fst) (kl.map Prod.fst) key).1 = 0 then StoRes 0 bu gu ((tl.map Prod.fst).filter fun x => !isKey key x) ((kl.map Prod.fst).filter fun x => !isKey key x) w.heap.size e w' else StoRes (peekR bu gu (tl.map Prod.fst) (kl.map Prod.fst) key).1 0 0 [] [] w.heap.size e w') ∧ Below w.heap.size w w' := by
  obtain ⟨W, hW⟩ : ∃ W, W = (w.alloc (.cells #[.int .i64 bu, .int .i64 gu, .slice ta tl.length tc, .slice ka kl.length kc] 28)).alloc (.cells #[.int .i64 0, .int .i64 0, .int .i64 0, .slice none 0 0, .slice none 0 0] 30) := ⟨_, rfl⟩
  have HW : Hid (W = (w.alloc (.cells #[.int .i64 bu, .int .i64 gu, .slice ta tl.length tc, .slice ka kl.length kc] 28)).alloc (.cells #[.int .i64 0, .int .i64 0, .int .i64 0, .slice none 0 0, .slice none 0 0] 30)) := hW
  have K0 : Hid (Below w.heap.size w W ∧ S4 W w.heap.size (.int .i64 bu) (.int .i64 gu) (.slice ta tl.length tc) (.slice ka kl.length kc) ∧ S5 W (w.heap.size + 1) (.int .i64 0) (.int .i64 0) (.int .i64 0) (.slice none 0 0) (.slice none 0 0) ∧ w.heap.size + 2 ≤ W.heap.size) := by
    rw [hW]
    refine ⟨((Below.refl _ _).alloc (Nat.le_refl _) _).alloc (by simp) _, (S4.new w _ _ _ _ _).keep ((Below.refl _ _).alloc (Nat.le_refl _) _), ?_, by simp⟩
    have := S5.new (w.alloc (.cells #[.int .i64 bu, .int .i64 gu, .slice ta tl.length tc, .slice ka kl.length kc] 28)) (.int .i64 0) (.int .i64 0) (.int .i64 0) (.slice none 0 0) (.slice none 0 0) 30
    simpa using this
  have CA : Hid (Calls Tryz.prog 48 #[.pointer (some ⟨w.heap.size, 0, none⟩), .string key] W fun e w' => AskOk (peekR bu gu (tl.map Prod.fst) (kl.map Prod.fst) key).1 bu gu (tl.map Prod.fst) (kl.map Prod.fst) W.heap.size e w' ∧ Below W.heap.size W w') := l8Ask_at W w.heap.size bu gu ta ka tc kc tl kl key K0.out.2.1 hl hk hto hft (ht.keep K0.out.1) (hq.keep K0.out.1)
  have HLN : Hid (tl.length ≤ 1048576 ∧ kl.length ≤ 1048576) := ⟨hl, hk⟩
  clear hW hl hk hto hft ht hq
  generalize (peekR bu gu (tl.map Prod.fst) (kl.map Prod.fst) key).1 = c at *
  go_enter Tryz.func12, Tryz.ntmps12
  go_wp2_with fail
  rw [← HW.out]
  refine CA.out.mono ?_
  rintro r0 w1 ⟨hask, hb1⟩
  clear CA HW
  rcases hask with ⟨hc, rfl⟩ | ⟨rfl, a1, k1, n1, a2, k2, n2, m1, m2, rfl, q1, q2, o⟩
  · have aV : Below w1.heap.size w1 (w1.alloc (.cells #[.int .i64 0, .int .i64 0, .slice none 0 0, .slice none 0 0] 28)) := (Below.refl _ _).alloc (Nat.le_refl _) _
    have s5 := (K0.out.2.2.1.keep hb1).keep aV
    have b1 := K0.out.1.trans (hb1.mono K0.out.1.size)
    have HB : Hid (Below w.heap.size w (w1.alloc (.cells #[.int .i64 0, .int .i64 0, .slice none 0 0, .slice none 0 0] 28))) := b1.trans (aV.mono b1.size)
    have z0 := s5.c0
    have z1 := s5.c1
    have z2 := s5.c2
    have z3 := s5.c3
    have z4 := s5.c4
    have zf0 := s5.fr 0
    have zf1 := s5.fr 1
    have zf2 := s5.fr 2
    have zf3 := s5.fr 3
    have zf4 := s5.fr 4
    clear s5 aV hb1 b1 K0 HLN
    go_wp2_with fail
    refine bodyPost_ret (v := .agg #[.int .i64 c, .int .i64 0, .int .i64 0, .slice none 0 0, .slice none 0 0]) (by simp [results, Tryz.results12, go_sem, z0, z1, z2, z3, z4]) rfl ?_
    refine ⟨by (try rw [if_neg hc]); exact ⟨_, _, _, _, _, _, [], [], rfl, rfl, rfl, .none _ _⟩, ?_⟩
    exact ((((HB.out.setCell (by simp) _).setCell (by simp) _).setCell (by simp) _).setCell (by simp) _).setCell (by simp) _
  · obtain ⟨V1, hV1⟩ : ∃ V, V = w1.alloc (.cells #[.int .i64 bu, .int .i64 gu, .slice a1 n1 k1, .slice a2 n2 k2] 28) := ⟨_, rfl⟩
    have HV1 : Hid (V1 = w1.alloc (.cells #[.int .i64 bu, .int .i64 gu, .slice a1 n1 k1, .slice a2 n2 k2] 28)) := hV1
    have aV : Below w1.heap.size w1 V1 := by rw [hV1]; exact (Below.refl _ _).alloc (Nat.le_refl _) _
    have sV : S4 V1 w1.heap.size (.int .i64 bu) (.int .i64 gu) (.slice a1 n1 k1) (.slice a2 n2 k2) := by rw [hV1]; exact S4.new w1 _ _ _ _ _
    have b1 := K0.out.1.trans (hb1.mono K0.out.1.size)
    have ln1 : m1.length ≤ 1048576 := by have := congrArg List.length q1; rw [List.length_map, List.length_map] at this; have := HLN.out.1; omega
    have ln2 : m2.length ≤ 1048576 := by have := congrArg List.length q2; rw [List.length_map, List.length_map] at this; have := HLN.out.2; omega
    have CD : Hid _ := l8Drop_at V1 w1.heap.size W.heap.size bu gu (.slice a1 n1 k1) (.slice a2 n2 k2) m1 m2 key sV (o.below aV) (by have := hb1.size; have := aV.size; omega) (fun h => by have := o.t.lt h; omega) (fun h => by have := o.k.lt h; omega) ln1 ln2
    have K1 : Hid (Below w.heap.size w V1 ∧ S5 V1 (w.heap.size + 1) (.int .i64 0) (.int .i64 0) (.int .i64 0) (.slice none 0 0) (.slice none 0 0) ∧ w.heap.size + 2 ≤ W.heap.size ∧ W.heap.size ≤ w1.heap.size) := ⟨b1.trans (aV.mono b1.size), (K0.out.2.2.1.keep hb1).keep aV, K0.out.2.2.2, hb1.size⟩
    have HM : Hid (m1.map Prod.fst = tl.map Prod.fst ∧ m2.map Prod.fst = kl.map Prod.fst) := ⟨q1, q2⟩
    clear hV1 aV sV b1 hb1 K0 HLN o q1 q2 ln1 ln2
    go_wp2_with fail
    rw [← HV1.out]
    refine Calls.mono CD.out ?_
    rintro e0 w2 ⟨rfl, ⟨u1, u2, s2, o2, _, _⟩, hb2⟩
    obtain ⟨c1, d1, rfl, _⟩ := row_form o2.t.own
    obtain ⟨c2, d2, rfl, _⟩ := row_form o2.k.own
    have hs5 : S5 w2 (w.heap.size + 1) (.int .i64 0) (.int .i64 0) (.int .i64 0) (.slice none 0 0) (.slice none 0 0) := K1.out.2.1.low hb2 (by have := K1.out.2.2; omega)
    have HB : Hid (Below w.heap.size w w2) := K1.out.1.trans (hb2.mono (by have := K1.out.2.2; omega))
    have HO : Hid (∃ p1 p2, p1.map Prod.fst = ((tl.map Prod.fst).filter fun x => !isKey key x) ∧ p2.map Prod.fst = ((kl.map Prod.fst).filter fun x => !isKey key x) ∧ StoO w2 W.heap.size (.slice c1 (offKey key m1).length d1) (.slice c2 (offKey key m2).length d2) p1 p2) := ⟨offKey key m1, offKey key m2, by rw [offKey_map, HM.out.1], by rw [offKey_map, HM.out.2], o2⟩
    have HWB : Hid (w.heap.size + 1 < W.heap.size) := by show _ < _; have := K1.out.2.2; omega
    have z0 := hs5.c0
    have z1 := hs5.c1
    have z2 := hs5.c2
    have z3 := hs5.c3
    have z4 := hs5.c4
    have zf0 := hs5.fr 0
    have zf1 := hs5.fr 1
    have zf2 := hs5.fr 2
    have zf3 := hs5.fr 3
    have zf4 := hs5.fr 4
    have y0 := s2.c0
    have y1 := s2.c1
    have y2 := s2.c2
    have y3 := s2.c3
    generalize (offKey key m1).length = f1 at *
    generalize (offKey key m2).length = f2 at *
    clear hs5 s2 o2 hb2 K1 CD HV1 HM
    go_wp2_with fail
    refine bodyPost_ret (v := .agg #[.int .i64 0, .int .i64 bu, .int .i64 gu, .slice c1 f1 d1, .slice c2 f2 d2]) (by simp [results, Tryz.results12, go_sem, z0, z1, z2, z3, z4]) rfl ?_
    obtain ⟨p1, p2, q1, q2, o⟩ := HO.out
    have hlt := HWB.out
    refine ⟨by (try rw [if_pos rfl]); exact ⟨_, _, _, _, _, _, p1, p2, rfl, q1, q2, (((((o.off1 _ hlt).off1 _ hlt).off1 _ hlt).off1 _ hlt).off1 _ hlt).lower (Nat.le_trans (Nat.le_succ _) (Nat.le_of_lt hlt))⟩, ?_⟩
    exact ((((HB.out.setCell (by simp) _).setCell (by simp) _).setCell (by simp) _).setCell (by simp) _).setCell (by simp) _
end Go.Proofs.YtaphofdcoddopaaGreatDoor
/-
  Entries that are pointed at, told anew by the program; a store of them.
-/
namespace Go.Proofs.YtaphofdcoddopaaGreatDoor
open Go.ChangeShapes Go.WideShapes Go.ChangeAt Go.RowKit Go.Sort
theorem entsO_nil (w : World) (base : Nat) : EntsO w base (.slice none 0 0) [] := ⟨OwnE.nil w base, fun q hq => by simp at hq, by simp [foot, Value.ownBlock]⟩
set_option maxRecDepth 100000 in
set_option maxHeartbeats 8000000 in
theorem told_any (w : World) (v : Value) (base : Nat) (l : List Hdl) (ho : OwnP w base v l) (hl : l.length ≤ 1000) (hth : ∀ h ∈ l, HThere w h) (hz : ∀ h ∈ l, entC h.x = 0) (hts : ∀ h ∈ l, ∀ t ∈ h.x.ts, t.size ≤ 1048576) :
    Calls Tryz.prog 99 #[.agg #[v], .func (.func 100) #[] #[]] w fun e w' => (∃ u m, e = .returned u ∧ m.map Prod.fst = l.map Hdl.x ∧ EntsO w' w.heap.size u m) ∧ Below w.heap.size w w' := by
  obtain ⟨i0, hi0, hz0, hz1, hz2⟩ := info_parts infoEntry
  obtain ⟨va, vc, rfl, _, hf⟩ := ho.form
  have HC : Hid (∀ (k : Nat) h, l[k]? = some h → ∃ g, va = some ⟨g, 0, none⟩ ∧ g < w.heap.size ∧ w.cell? ⟨g, k, none⟩ = some (.pointer (some ⟨h.b, h.o, none⟩))) := fun k h hk => by
    rcases hf with rfl | ⟨g, e, _, hg, hc⟩
    · simp at hk
    · exact ⟨g, e, hg, hc k h hk⟩
  have HT : Hid (∀ X, Below w.heap.size w X → ∀ h ∈ l, Calls Tryz.prog 100 #[.pointer (some ⟨h.b, h.o, none⟩)] X fun e w' => (∃ r, e = .returned (.agg #[.string h.x.key, .int .i64 h.x.st, .slice r.ha h.x.hs.length r.hc, .slice r.ba h.x.bl.length r.bc, .int .i64 h.x.t, .int .i64 h.x.g, .int .i64 h.x.l, .int .i64 h.x.s, .int .i64 h.x.e, .bool h.x.b1, .bool h.x.b2, .slice r.ta h.x.ts.length r.tc, .int .i64 h.x.pins]) ∧ EntLV w' X.heap.size h.x r) ∧ Below X.heap.size X w') := fun X hX h hh => (anew_at X h (hz h hh) (hts h hh) ((hth h hh).keep hX)).mono (fun e w' ⟨⟨r, h1, h2⟩, h3⟩ => ⟨⟨r, h1, h2.lv⟩, h3⟩)
  clear hf ho hth hz hts
  obtain ⟨n, hn0⟩ : ∃ n, l.length = n := ⟨_, rfl⟩
  rw [hn0] at hl ⊢
  have HN : Hid (l.length = n) := hn0
  clear hn0
  have HS : Hid (∃ m : List (Ent × EntR), m.map Prod.fst = (l.take 0).map Hdl.x ∧ EntsO (w.alloc (.cells #[.slice va n vc] 83)) w.heap.size (.slice none 0 0) m ∧ Below w.heap.size w (w.alloc (.cells #[.slice va n vc] 83))) := ⟨[], by simp, entsO_nil _ _, (Below.refl _ _).alloc (Nat.le_refl _) _⟩
  go_enter Tryz.func99, Tryz.ntmps99
  go_wp2_with fail
  go_loopw [5, 11] (fun v i wr => ∃ k : Nat, k ≤ n ∧ i = .int .i64 (k : Int) ∧ ∃ m : List (Ent × EntR), m.map Prod.fst = (l.take k).map Hdl.x ∧ EntsO wr w.heap.size v m ∧ Below w.heap.size w wr) (fun _ i _ => n - (intOf i).toNat)
  case atStart => exact ⟨0, Nat.zero_le _, rfl, HS.out⟩
  case round =>
    obtain ⟨k, hk, rfl, m, hm, ho, hb⟩ := hrel
    clear HS
    by_cases hlt : k < n
    · obtain ⟨q, hq⟩ : ∃ r, l[k]? = some r := ⟨l[k]'(by have := HN.out; omega), List.getElem?_eq_getElem _⟩
      have hml : m.length = k := by
        have := congrArg List.length hm
        rw [List.length_map, List.length_map, List.length_take] at this
        have := HN.out
        omega
      obtain ⟨g', rfl, hg, hc⟩ := HC.out k q hq
      have p1 : wr.cell? ⟨g', k, none⟩ = some (.pointer (some ⟨q.b, q.o, none⟩)) := by rw [hb.cell (p := ⟨g', k, none⟩) hg]; exact hc
      have CC := HT.out wr hb q (List.mem_of_getElem? hq)
      obtain ⟨ua, uc, rfl, huc⟩ := row_form ho.own
      rw [hml] at ho huc ⊢
      have HQ : Hid (l[k]? = some q ∧ m.map Prod.fst = (l.take k).map Hdl.x ∧ m.length = k ∧ EntsO wr w.heap.size (.slice ua k uc) m ∧ Below w.heap.size w wr) := ⟨hq, hm, hml, ho, hb⟩
      obtain ⟨x, hx⟩ : ∃ x, q.x = x := ⟨_, rfl⟩
      have HX : Hid (q.x = x) := hx
      rw [hx] at CC
      have gk : (k : Int) < n := by omega
      have gk0 : (0 : Int) ≤ k := by omega
      clear hc hq hm hml ho hb hx hg
      go_wp2_with fail
      refine CC.mono ?_
      rintro e w1 ⟨⟨r, rfl, hr⟩, hb1⟩
      have O1 := HQ.out.2.2.2.1.below hb1
      have s1 := hb1.size
      have K2 : Below w1.heap.size w1 (w1.alloc (.cells #[.string x.key, .int .i64 x.st, .slice r.ha x.hs.length r.hc, .slice r.ba x.bl.length r.bc, .int .i64 x.t, .int .i64 x.g, .int .i64 x.l, .int .i64 x.s, .int .i64 x.e, .bool x.b1, .bool x.b2, .slice r.ta x.ts.length r.tc, .int .i64 x.pins] 54)) := (Below.refl _ _).alloc (Nat.le_refl _) _
      have O2 : Hid ((w1.alloc (.cells #[.string x.key, .int .i64 x.st, .slice r.ha x.hs.length r.hc, .slice r.ba x.bl.length r.bc, .int .i64 x.t, .int .i64 x.g, .int .i64 x.l, .int .i64 x.s, .int .i64 x.e, .bool x.b1, .bool x.b2, .slice r.ta x.ts.length r.tc, .int .i64 x.pins] 54)).ownsRow w.heap.size 54 13 (.slice ua k uc) k (entsW m)) := by
        have := (O1.below K2).own
        unfold OwnE at this
        rw [HQ.out.2.2.1] at this
        exact this
      have s2 : Hid (w.heap.size ≤ (w1.alloc (.cells #[.string x.key, .int .i64 x.st, .slice r.ha x.hs.length r.hc, .slice r.ba x.bl.length r.bc, .int .i64 x.t, .int .i64 x.g, .int .i64 x.l, .int .i64 x.s, .int .i64 x.e, .bool x.b1, .bool x.b2, .slice r.ta x.ts.length r.tc, .int .i64 x.pins] 54)).heap.size) := by show _ ≤ _; have := K2.size; have := HQ.out.2.2.2.2.size; omega
      have HA : Hid (∀ g cap w3, w3.ownsRow w.heap.size 54 13 (.slice (some ⟨g, 0, none⟩) (k + 1) cap) (k + 1) (entsW m ++ entW x r) → (w1.alloc (.cells #[.string x.key, .int .i64 x.st, .slice r.ha x.hs.length r.hc, .slice r.ba x.bl.length r.bc, .int .i64 x.t, .int .i64 x.g, .int .i64 x.l, .int .i64 x.s, .int .i64 x.e, .bool x.b1, .bool x.b2, .slice r.ta x.ts.length r.tc, .int .i64 x.pins] 54)).grownBy w3 (Value.slice ua k uc).ownBlock → ((Value.slice ua k uc).ownBlock = some g ∨ g = (w1.alloc (.cells #[.string x.key, .int .i64 x.st, .slice r.ha x.hs.length r.hc, .slice r.ba x.bl.length r.bc, .int .i64 x.t, .int .i64 x.g, .int .i64 x.l, .int .i64 x.s, .int .i64 x.e, .bool x.b1, .bool x.b2, .slice r.ta x.ts.length r.tc, .int .i64 x.pins] 54)).heap.size) → ∃ m' : List (Ent × EntR), m'.map Prod.fst = (l.take (k + 1)).map Hdl.x ∧ EntsO w3 w.heap.size (.slice (some ⟨g, 0, none⟩) (k + 1) cap) m' ∧ Below w.heap.size w w3) := fun g cap w3 h1 h2 h3 => by
        obtain ⟨hq, hm, hml, ho, hb⟩ := HQ.out
        have hbase := hb.size
        have hB : Below w.heap.size (w1.alloc (.cells #[.string x.key, .int .i64 x.st, .slice r.ha x.hs.length r.hc, .slice r.ba x.bl.length r.bc, .int .i64 x.t, .int .i64 x.g, .int .i64 x.l, .int .i64 x.s, .int .i64 x.e, .bool x.b1, .bool x.b2, .slice r.ta x.ts.length r.tc, .int .i64 x.pins] 54)) w3 := (Below.refl _ _).grown h2 s2.out (fun q hq => row_ge O2.out q hq)
        refine ⟨m ++ [(x, r)], ?_, ?_, (hb.trans ((hb1.trans (K2.mono s1)).mono hbase)).trans hB⟩
        · rw [List.map_append, take_next hq, List.map_append, hm]
          simp [HX.out]
        · have := EntsO.app (g := g) (cap := cap) O1 hr hbase (fun b hb => ho.lt hb) K2 (by rw [hml]; exact h1) h2 hB.size h3
          rw [hml] at this
          exact this
      have HW : Hid (∀ j u, (entW x r)[j]? = some u → (w1.alloc (.cells #[.string x.key, .int .i64 x.st, .slice r.ha x.hs.length r.hc, .slice r.ba x.bl.length r.bc, .int .i64 x.t, .int .i64 x.g, .int .i64 x.l, .int .i64 x.s, .int .i64 x.e, .bool x.b1, .bool x.b2, .slice r.ta x.ts.length r.tc, .int .i64 x.pins] 54)).cell? ((⟨w1.heap.size, 0, none⟩ : Addr).add j) = some u) := entW_cells w1 x r _
      clear CC O1 K2 hr hb1 s1 p1
      go_wp2_with (at_builtin; refine wpList_append_lies _ rfl (.tmp 15) (.tmp 19) 26 rfl w.heap.size 54 i0 _ 13 152 Tryz.underlying26 hi0 hz0 hz1 hz2 rfl (by omega) _ k (entsW m) rfl O2.out _ 1 1 (entW x r) rfl rfl HW.out (entW_one x r) (by omega) (by unfold maxLen; omega) (by omega) s2.out _ rfl ?_; intro g cp w3 h1 h2 h3 h4)
      go_roundw
      case rel => exact ⟨k + 1, by omega, by go_num, HA.out _ _ _ h1 h2 h3⟩
      case measure => simp [intOf]; omega
    · have ek : k = n := by omega
      subst ek
      obtain ⟨ua, uc, rfl, _⟩ := row_form ho.own
      have HE : Hid ((∃ v' m', Ending.returned (.slice ua m.length uc) = .returned v' ∧ m'.map Prod.fst = l.map Hdl.x ∧ EntsO wr w.heap.size v' m') ∧ Below w.heap.size w wr) := ⟨⟨_, m, rfl, by rw [hm, List.take_of_length_le (by have := HN.out; omega)], ho⟩, hb⟩
      clear hm ho hb HC HT
      go_wp2_with fail
      go_ret
      exact HE.out
set_option maxRecDepth 100000 in
set_option maxHeartbeats 16000000 in
theorem storeLike_any (w : World) (v1 v2 : Value) (base : Nat) (l1 l2 : List Hdl) (bu gu : Int) (ta ka : Option Addr) (tc kc tn kn : Nat) (h : TwoP w base v1 v2 l1 l2) (hl : l1.length + l2.length ≤ 1000) (hth : ∀ h ∈ l1 ++ l2, HThere w h) (hz : ∀ h ∈ l1 ++ l2, entC h.x = 0) (hts : ∀ h ∈ l1 ++ l2, ∀ t ∈ h.x.ts, t.size ≤ 1048576) :
    Calls Tryz.prog 54 #[.agg #[v1, v2], .agg #[.int .i64 bu, .int .i64 gu, .slice ta tn tc, .slice ka kn kc]] w fun e w' => (∃ a1 k1 n1 a2 k2 n2 m1 m2, e = .returned (.agg #[.int .i64 bu, .int .i64 gu, .slice a1 n1 k1, .slice a2 n2 k2]) ∧ m1.map Prod.fst = l1.map Hdl.x ∧ m2.map Prod.fst = l2.map Hdl.x ∧ StoO w' w.heap.size (.slice a1 n1 k1) (.slice a2 n2 k2) m1 m2) ∧ Below w.heap.size w w' := by
  obtain ⟨b1, d1, e1, _⟩ := h.a.form
  obtain ⟨b2, d2, e2, _⟩ := h.b.form
  have HC1 : Hid (∀ X, Below w.heap.size w X → Calls Tryz.prog 99 #[.agg #[v1], .func (.func 100) #[] #[]] X fun e w' => (∃ u m, e = .returned u ∧ m.map Prod.fst = l1.map Hdl.x ∧ EntsO w' X.heap.size u m) ∧ Below X.heap.size X w') := fun X hX => told_any X v1 base l1 (h.a.below hX) (by omega) (fun x hx => (hth x (List.mem_append_left _ hx)).keep hX) (fun x hx => hz x (List.mem_append_left _ hx)) (fun x hx => hts x (List.mem_append_left _ hx))
  have HC2 : Hid (∀ X, Below w.heap.size w X → Calls Tryz.prog 99 #[.agg #[v2], .func (.func 100) #[] #[]] X fun e w' => (∃ u m, e = .returned u ∧ m.map Prod.fst = l2.map Hdl.x ∧ EntsO w' X.heap.size u m) ∧ Below X.heap.size X w') := fun X hX => told_any X v2 base l2 (h.b.below hX) (by omega) (fun x hx => (hth x (List.mem_append_right _ hx)).keep hX) (fun x hx => hz x (List.mem_append_right _ hx)) (fun x hx => hts x (List.mem_append_right _ hx))
  obtain ⟨W, hW⟩ : ∃ W, W = ((w.alloc (.cells #[v1, v2] 85)).alloc (.cells #[.int .i64 bu, .int .i64 gu, .slice ta tn tc, .slice ka kn kc] 28)).alloc (.cells #[.int .i64 0, .int .i64 0, .slice none 0 0, .slice none 0 0] 28) := ⟨_, rfl⟩
  have HW : Hid (W = ((w.alloc (.cells #[v1, v2] 85)).alloc (.cells #[.int .i64 bu, .int .i64 gu, .slice ta tn tc, .slice ka kn kc] 28)).alloc (.cells #[.int .i64 0, .int .i64 0, .slice none 0 0, .slice none 0 0] 28)) := hW
  have K0 : Hid (Below w.heap.size w W ∧ (W.cell? ⟨w.heap.size, 0, none⟩ = some v1 ∧ W.cell? ⟨w.heap.size, 1, none⟩ = some v2) ∧ S4 W (w.heap.size + 1) (.int .i64 bu) (.int .i64 gu) (.slice ta tn tc) (.slice ka kn kc) ∧ S4 W (w.heap.size + 2) (.int .i64 0) (.int .i64 0) (.slice none 0 0) (.slice none 0 0) ∧ W.heap.size = w.heap.size + 3) := by
    have A1 : Below (w.alloc (.cells #[v1, v2] 85)).heap.size (w.alloc (.cells #[v1, v2] 85)) W := by rw [hW]; exact ((Below.refl _ _).alloc (Nat.le_refl _) _).alloc (by simp) _
    have s1 := S4.new (w.alloc (.cells #[v1, v2] 85)) (.int .i64 bu) (.int .i64 gu) (.slice ta tn tc) (.slice ka kn kc) 28
    have s2 := S4.new ((w.alloc (.cells #[v1, v2] 85)).alloc (.cells #[.int .i64 bu, .int .i64 gu, .slice ta tn tc, .slice ka kn kc] 28)) (.int .i64 0) (.int .i64 0) (.slice none 0 0) (.slice none 0 0) 28
    rw [← hW] at s2
    have z1 : (w.alloc (.cells #[v1, v2] 85)).heap.size = w.heap.size + 1 := by simp
    have z2 : ((w.alloc (.cells #[v1, v2] 85)).alloc (.cells #[.int .i64 bu, .int .i64 gu, .slice ta tn tc, .slice ka kn kc] 28)).heap.size = w.heap.size + 2 := by simp
    rw [z1] at s1 A1
    rw [z2] at s2
    refine ⟨by rw [hW]; exact (((Below.refl _ _).alloc (Nat.le_refl _) _).alloc (by simp) _).alloc (by simp; omega) _, ⟨?_, ?_⟩, ?_, s2, by rw [hW]; simp⟩
    · rw [A1.cell (p := ⟨w.heap.size, 0, none⟩) (by simp)]; simp
    · rw [A1.cell (p := ⟨w.heap.size, 1, none⟩) (by simp)]; simp
    · refine s1.keep ?_
      rw [z2, hW]
      exact (Below.refl _ _).alloc (by simp) _
  clear hW h hth hz hts
  have HK : Hid (∀ X, Below W.heap.size W X → Below w.heap.size w X ∧ (X.cell? ⟨w.heap.size, 0, none⟩ = some v1 ∧ X.cell? ⟨w.heap.size, 1, none⟩ = some v2) ∧ S4 X (w.heap.size + 1) (.int .i64 bu) (.int .i64 gu) (.slice ta tn tc) (.slice ka kn kc) ∧ S4 X (w.heap.size + 2) (.int .i64 0) (.int .i64 0) (.slice none 0 0) (.slice none 0 0) ∧ w.heap.size + 3 ≤ X.heap.size) := fun X hX => by
    obtain ⟨k1, ⟨k2, k3⟩, k4, k5, k6⟩ := K0.out
    have hz := hX.size
    refine ⟨k1.trans (hX.mono k1.size), ⟨?_, ?_⟩, k4.keep hX, k5.keep hX, by omega⟩
    · rw [hX.cell (p := ⟨w.heap.size, 0, none⟩) (by simp only; omega)]; exact k2
    · rw [hX.cell (p := ⟨w.heap.size, 1, none⟩) (by simp only; omega)]; exact k3
  clear K0
  subst e1
  subst e2
  generalize l1.length = c1 at *
  generalize l2.length = c2 at *
  have HKS : Hid (∀ X, Below W.heap.size W X → (X.cell? ⟨w.heap.size, 0, none⟩ = some (.slice b1 c1 d1) ∧ X.cell? ⟨w.heap.size, 1, none⟩ = some (.slice b2 c2 d2) ∧ X.cell? ⟨w.heap.size + 1, 0, none⟩ = some (.int .i64 bu) ∧ X.cell? ⟨w.heap.size + 1, 1, none⟩ = some (.int .i64 gu))) := fun X hX => ⟨(HK.out X hX).2.1.1, (HK.out X hX).2.1.2, (HK.out X hX).2.2.1.c0, (HK.out X hX).2.2.1.c1⟩
  have HKT : Hid (∀ X u0 u1 u2 u3, Below W.heap.size W X → (((((X.setCell ⟨w.heap.size + 2, 0, none⟩ u0).setCell ⟨w.heap.size + 2, 1, none⟩ u1).setCell ⟨w.heap.size + 2, 2, none⟩ u2).setCell ⟨w.heap.size + 2, 3, none⟩ u3).cell? ⟨w.heap.size, 0, none⟩ = some (.slice b1 c1 d1) ∧ ((((X.setCell ⟨w.heap.size + 2, 0, none⟩ u0).setCell ⟨w.heap.size + 2, 1, none⟩ u1).setCell ⟨w.heap.size + 2, 2, none⟩ u2).setCell ⟨w.heap.size + 2, 3, none⟩ u3).cell? ⟨w.heap.size, 1, none⟩ = some (.slice b2 c2 d2) ∧ ((((X.setCell ⟨w.heap.size + 2, 0, none⟩ u0).setCell ⟨w.heap.size + 2, 1, none⟩ u1).setCell ⟨w.heap.size + 2, 2, none⟩ u2).setCell ⟨w.heap.size + 2, 3, none⟩ u3).cell? ⟨w.heap.size + 1, 0, none⟩ = some (.int .i64 bu) ∧ ((((X.setCell ⟨w.heap.size + 2, 0, none⟩ u0).setCell ⟨w.heap.size + 2, 1, none⟩ u1).setCell ⟨w.heap.size + 2, 2, none⟩ u2).setCell ⟨w.heap.size + 2, 3, none⟩ u3).cell? ⟨w.heap.size + 1, 1, none⟩ = some (.int .i64 gu))) := fun X u0 u1 u2 u3 hX => by
    obtain ⟨q0, q1, q2, q3⟩ := HKS.out X hX
    have off : ∀ (b i : Nat), b ≠ w.heap.size + 2 → ((((X.setCell ⟨w.heap.size + 2, 0, none⟩ u0).setCell ⟨w.heap.size + 2, 1, none⟩ u1).setCell ⟨w.heap.size + 2, 2, none⟩ u2).setCell ⟨w.heap.size + 2, 3, none⟩ u3).cell? ⟨b, i, none⟩ = X.cell? ⟨b, i, none⟩ := fun b i hb => by
      have ne : ∀ j, (⟨w.heap.size + 2, j, none⟩ : Addr) ≠ ⟨b, i, none⟩ := fun j e => hb (congrArg Addr.block e).symm
      rw [World.cell?_setCell_other _ _ _ _ (ne 3), World.cell?_setCell_other _ _ _ _ (ne 2), World.cell?_setCell_other _ _ _ _ (ne 1), World.cell?_setCell_other _ _ _ _ (ne 0)]
    rw [off _ _ (by omega), off _ _ (by omega), off _ _ (by omega), off _ _ (by omega)]
    exact ⟨q0, q1, q2, q3⟩
  have B0 : Hid (Below W.heap.size W W.drew) := (Below.refl _ _).drew
  go_enter Tryz.func54, Tryz.ntmps54
  go_wp2_with fail
  rw [← HW.out]
  clear HW
  go_region_held3 (fun X => X.cell? ⟨w.heap.size, 0, none⟩ = some (.slice b1 c1 d1) ∧ X.cell? ⟨w.heap.size, 1, none⟩ = some (.slice b2 c2 d2) ∧ X.cell? ⟨w.heap.size + 1, 0, none⟩ = some (.int .i64 bu) ∧ X.cell? ⟨w.heap.size + 1, 1, none⟩ = some (.int .i64 gu))
    (first | ((with_reducible refine HKS.out _ ?_); (with_reducible exact BB.out)) | ((with_reducible refine HKS.out _ ?_); (with_reducible exact BA.out)) | ((with_reducible refine HKS.out _ ?_); (with_reducible exact B0.out)) | ((with_reducible refine HKT.out _ _ _ _ _ ?_); (with_reducible exact BB.out)))
    (first
    | (go_at_call 99; have hBA := BA; refine (HC2.out _ (HK.out _ BA.out).1).mono ?_; rintro r0 wb ⟨⟨u2, m2, rfl, hm2, ho2⟩, hbb⟩; obtain ⟨a2, k2, rfl, _⟩ := row_form ho2.own; have BB : Hid (Below W.heap.size W wb) := BA.out.trans (hbb.mono BA.out.size); have TT : Hid (StoO wb (w.heap.size + 3) _ (.slice a2 m2.length k2) m1 m2 ∧ m2.map Prod.fst = l2.map Hdl.x) := ⟨StoO.two OA.out ho2 hbb (Nat.le_refl _) (HK.out _ BA.out).2.2.2.2, hm2⟩; have s4 := (HK.out _ BB.out).2.2.2.1; have c0 := s4.c0; have c1' := s4.c1; have c2' := s4.c2; have c3 := s4.c3; have cf0 := s4.fr 0; have cf1 := s4.fr 1; have cf2 := s4.fr 2; have cf3 := s4.fr 3; clear s4 hbb ho2 hBA hm2)
    | (go_at_call 99; refine (HC1.out _ (HK.out _ B0.out).1).mono ?_; rintro r0 wa ⟨⟨u1, m1, rfl, hm1, ho1⟩, hba⟩; obtain ⟨a1, k1, rfl, _⟩ := row_form ho1.own; have BA : Hid (Below W.heap.size W wa) := B0.out.trans (hba.mono B0.out.size); have OA : Hid (EntsO wa (w.heap.size + 3) (.slice a1 m1.length k1) m1) := ho1.lower (HK.out _ B0.out).2.2.2.2; have HM1 : Hid (m1.map Prod.fst = l1.map Hdl.x) := hm1; clear hba ho1 hm1))
  all_goals
    have KZ : Hid (∀ q0 q1 q2 q3, StoO ((((wb.setCell ⟨w.heap.size + 2, 0, none⟩ q0).setCell ⟨w.heap.size + 2, 1, none⟩ q1).setCell ⟨w.heap.size + 2, 2, none⟩ q2).setCell ⟨w.heap.size + 2, 3, none⟩ q3) w.heap.size (.slice a1 m1.length k1) (.slice a2 m2.length k2) m1 m2 ∧ Below w.heap.size w ((((wb.setCell ⟨w.heap.size + 2, 0, none⟩ q0).setCell ⟨w.heap.size + 2, 1, none⟩ q1).setCell ⟨w.heap.size + 2, 2, none⟩ q2).setCell ⟨w.heap.size + 2, 3, none⟩ q3)) := fun q0 q1 q2 q3 => ⟨((((TT.out.1.off1 q0 (by omega)).off1 q1 (by omega)).off1 q2 (by omega)).off1 q3 (by omega)).lower (by omega), ((((HK.out _ BB.out).1.setCell (by simp) _).setCell (by simp) _).setCell (by simp) _).setCell (by simp) _⟩
    go_wp2_with fail
    exact bodyPost_ret (v := .agg #[.int .i64 bu, .int .i64 gu, .slice a1 m1.length k1, .slice a2 m2.length k2]) (by simp [results, Tryz.results54, go_sem, c0, c1', c2', c3]) rfl ⟨⟨a1, k1, _, a2, k2, _, m1, m2, rfl, HM1.out, TT.out.2, (KZ.out _ _ _ _).1⟩, (KZ.out _ _ _ _).2⟩
end Go.Proofs.YtaphofdcoddopaaGreatDoor
/-
  Entries of one's own, by their cells: written, one at a time.
-/
namespace Go.Proofs.YtaphofdcoddopaaGreatDoor
open Go.ChangeShapes Go.WideShapes Go.ChangeAt Go.RowKit Go.Sort
/-- What lies outside of the blocks F is as it was. -/
structure Out (F : List Nat) (w w' : World) : Prop where
  size : w.heap.size ≤ w'.heap.size
  cell : ∀ b o, b < w.heap.size → b ∉ F → w'.cell? ⟨b, o, none⟩ = w.cell? ⟨b, o, none⟩
  frozen : ∀ b o, b < w.heap.size → b ∉ F → w'.frozen? ⟨b, o, none⟩ = w.frozen? ⟨b, o, none⟩
theorem Out.refl (F : List Nat) (w : World) : Out F w w := ⟨Nat.le_refl _, fun _ _ _ _ => rfl, fun _ _ _ _ => rfl⟩
theorem Out.trans {F : List Nat} {w w1 w2 : World} (h : Out F w w1) (k : Out F w1 w2) : Out F w w2 :=
  ⟨Nat.le_trans h.size k.size, fun b o hb hn => by rw [k.cell b o (Nat.lt_of_lt_of_le hb h.size) hn, h.cell b o hb hn], fun b o hb hn => by rw [k.frozen b o (Nat.lt_of_lt_of_le hb h.size) hn, h.frozen b o hb hn]⟩
theorem Out.mono {F G : List Nat} {w w' : World} (h : Out F w w') (hs : ∀ b ∈ F, b ∈ G) : Out G w w' :=
  ⟨h.size, fun b o hb hn => h.cell b o hb (fun e => hn (hs b e)), fun b o hb hn => h.frozen b o hb (fun e => hn (hs b e))⟩
theorem Out.below {F : List Nat} {w w' : World} (h : Below w.heap.size w w') : Out F w w' :=
  ⟨h.size, fun b o hb _ => h.cell (p := ⟨b, o, none⟩) hb, fun b o hb _ => h.frozen (p := ⟨b, o, none⟩) hb⟩
theorem Out.hav {v : Value} {w w' : World} (h : HAV v w w') : Out v.ownBlock.toList w w' :=
  ⟨h.size, fun b o hb hn => h.cell b o hb (fun e => hn (by simp [e])), fun b o hb hn => h.frozen b o hb (fun e => hn (by simp [e]))⟩
theorem Out.set (w : World) (g o : Nat) (u : Value) : Out [g] w (w.setCell ⟨g, o, none⟩ u) :=
  ⟨by simp, fun b o' _ hn => World.cell?_setCell_other _ _ _ _ (by intro e; have := congrArg Addr.block e; simp at this; simp at hn; omega), fun b o' _ _ => World.frozen?_setCell _ _ _ _⟩
theorem Out.above {F : List Nat} {hi : Nat} {w w' : World} (h : Out F w w') (hF : ∀ b ∈ F, b < hi) : Above hi w w' :=
  ⟨h.size, fun b o h1 h2 => h.cell b o h2 (fun e => by have := hF b e; omega), fun b o h1 h2 => h.frozen b o h2 (fun e => by have := hF b e; omega)⟩
/-- The blocks of a list of entries. -/
def fp (v : Value) (l : List (Ent × EntR)) : List Nat := v.ownBlock.toList ++ foot l
/-- v holds the entries l; all of it is its holder's own, from block base on. -/
structure EntsLV (w : World) (base : Nat) (v : Value) (l : List (Ent × EntR)) : Prop where
  form : (v = .slice none 0 0 ∧ l = []) ∨ ∃ g cap, v = .slice (some ⟨g, 0, none⟩) l.length cap ∧ l.length ≤ cap ∧ base ≤ g ∧ g < w.heap.size ∧ (∀ (i : Nat) q, l[i]? = some q → ∀ j, j < 13 → w.cell? ⟨g, i * 13 + j, none⟩ = (entW q.1 q.2)[j]?) ∧ ∀ o, w.frozen? ⟨g, o, none⟩ = false
  rows : ∀ q ∈ l, EntLV w base q.1 q.2
  nd : (fp v l).Nodup
theorem EntsO.lv {w : World} {base : Nat} {v : Value} {l : List (Ent × EntR)} (h : EntsO w base v l) : EntsLV w base v l := by
  refine ⟨?_, h.rows, h.nd⟩
  have h0 := h.own
  obtain ⟨_, h1 | ⟨g, c, cur, rfl, hg, hh, hc, _⟩⟩ := h.own
  · exact .inl ⟨h1.1, List.eq_nil_of_length_eq_zero h1.2⟩
  · refine .inr ⟨g, c, rfl, hc, hg, (Array.getElem?_eq_some_iff.1 hh).1, fun i q hq j hj => ?_, fun o => by simp [World.frozen?, hh]⟩
    have hi := (List.getElem?_eq_some_iff.1 hq).1
    rw [World.ownsRow.cellAt h0 (i * 13 + j) (by omega), entsW_at l i q hq j hj]
theorem EntsLV.lt {w : World} {base : Nat} {v : Value} {l : List (Ent × EntR)} (h : EntsLV w base v l) {b : Nat} (hb : b ∈ fp v l) : b < w.heap.size := by
  rcases List.mem_append.1 hb with hb | hb
  · rcases h.form with ⟨rfl, _⟩ | ⟨g, c, rfl, _, _, hg, _⟩
    · simp [Value.ownBlock] at hb
    · simp [Value.ownBlock] at hb; omega
  · obtain ⟨q, hq, hb⟩ := List.mem_flatMap.1 hb
    exact (h.rows q hq).lts.mem hb
theorem EntsLV.ge {w : World} {base : Nat} {v : Value} {l : List (Ent × EntR)} (h : EntsLV w base v l) {b : Nat} (hb : b ∈ fp v l) : base ≤ b := by
  rcases List.mem_append.1 hb with hb | hb
  · rcases h.form with ⟨rfl, _⟩ | ⟨g, c, rfl, _, hg, _⟩
    · simp [Value.ownBlock] at hb
    · simp [Value.ownBlock] at hb; omega
  · obtain ⟨q, hq, hb⟩ := List.mem_flatMap.1 hb
    exact (h.rows q hq).ge hb
theorem EntsLV.lower {w : World} {base b0 : Nat} {v : Value} {l : List (Ent × EntR)} (h : EntsLV w base v l) (hb : b0 ≤ base) : EntsLV w b0 v l := by
  refine ⟨?_, fun q hq => (h.rows q hq).lower hb, h.nd⟩
  rcases h.form with h1 | ⟨g, c, e, h1, h2, h3⟩
  · exact .inl h1
  · exact .inr ⟨g, c, e, h1, by omega, h3⟩
theorem EntsLV.out {w w' : World} {F : List Nat} {base : Nat} {v : Value} {l : List (Ent × EntR)} (h : EntsLV w base v l) (o : Out F w w') (hd : ∀ b ∈ fp v l, b ∉ F) : EntsLV w' base v l := by
  refine ⟨?_, fun q hq => (h.rows q hq).far o.size fun b hb hlt o' => ?_, h.nd⟩
  · rcases h.form with h1 | ⟨g, c, e, h1, h2, h3, h4, h5⟩
    · exact .inl h1
    · have hn : g ∉ F := hd g (by simp [fp, e, Value.ownBlock])
      exact .inr ⟨g, c, e, h1, h2, Nat.lt_of_lt_of_le h3 o.size, fun i q hq j hj => by rw [o.cell g _ h3 hn]; exact h4 i q hq j hj, fun o' => by rw [o.frozen g o' h3 hn]; exact h5 o'⟩
  · have hn : b ∉ F := hd b (List.mem_append.2 (.inr (List.mem_flatMap.2 ⟨q, hq, hb⟩)))
    exact ⟨o.cell b o' hlt hn, o.frozen b o' hlt hn⟩
theorem EntsLV.below {w w' : World} {base : Nat} {v : Value} {l : List (Ent × EntR)} (h : EntsLV w base v l) (hb : Below w.heap.size w w') : EntsLV w' base v l := h.out (F := []) (.below hb) (by simp)
theorem EntsLV.in {w : World} {base : Nat} {v : Value} {l : List (Ent × EntR)} (h : EntsLV w base v l) : ∃ a c, v = .slice a l.length c ∧ l.length ≤ c ∧ EntsIn w a l := by
  rcases h.form with ⟨rfl, rfl⟩ | ⟨g, c, e, h1, h2, h3, h4, h5⟩
  · exact ⟨none, 0, rfl, Nat.le_refl _, .inl rfl⟩
  · exact ⟨_, c, e, h1, .inr ⟨g, 0, rfl, fun i q hq => ⟨fun j hj => by rw [Nat.zero_add]; exact h4 i q hq j hj, (h.rows q (List.mem_of_getElem? hq)).in⟩⟩⟩
theorem EntsLV.at {w : World} {base g n cap : Nat} {l : List (Ent × EntR)} (h : EntsLV w base (.slice (some ⟨g, 0, none⟩) n cap) l) : n = l.length ∧ l.length ≤ cap ∧ base ≤ g ∧ g < w.heap.size ∧ (∀ (i : Nat) q, l[i]? = some q → ∀ j, j < 13 → w.cell? ⟨g, i * 13 + j, none⟩ = (entW q.1 q.2)[j]?) ∧ ∀ o, w.frozen? ⟨g, o, none⟩ = false := by
  rcases h.form with ⟨e, _⟩ | ⟨g', c, e, h1, h2, h3, h4, h5⟩
  · simp at e
  · simp only [Value.slice.injEq, Option.some.injEq, Addr.mk.injEq] at e
    obtain ⟨⟨rfl, _⟩, rfl, rfl⟩ := e
    exact ⟨rfl, h1, h2, h3, h4, h5⟩
theorem foot_mid (A B : List (Ent × EntR)) (x : Ent) (r : EntR) : foot (A ++ (x, r) :: B) = foot A ++ (rblk r ++ foot B) := by simp [foot]
theorem mid_ne {α : Type} (A B : List α) (y z : α) (i : Nat) (h : i ≠ A.length) : (A ++ y :: B)[i]? = (A ++ z :: B)[i]? := by
  by_cases hl : i < A.length
  · rw [List.getElem?_append_left hl, List.getElem?_append_left hl]
  · rw [List.getElem?_append_right (by omega), List.getElem?_append_right (by omega)]
    obtain ⟨d, hd⟩ : ∃ d, i - A.length = d + 1 := ⟨i - A.length - 1, by omega⟩
    rw [hd]; rfl
theorem mid_eq {α : Type} (A B : List α) (y : α) : (A ++ y :: B)[A.length]? = some y := by simp
/-- One entry is another one now. -/
theorem EntsLV.mid {w w' : World} {F : List Nat} {base g n cap : Nat} {A B : List (Ent × EntR)} {x : Ent} {r : EntR} (h : EntsLV w base (.slice (some ⟨g, 0, none⟩) n cap) (A ++ (x, r) :: B)) (o : Out F w w') (hF : ∀ b ∈ F, b = g ∨ b ∈ rblk r) (x' : Ent) (hx : EntLV w' base x' r)
    (hc : ∀ (i : Nat) q, (A ++ (x', r) :: B)[i]? = some q → ∀ j, j < 13 → w'.cell? ⟨g, i * 13 + j, none⟩ = (entW q.1 q.2)[j]?) (hfr : ∀ o, w'.frozen? ⟨g, o, none⟩ = false) : EntsLV w' base (.slice (some ⟨g, 0, none⟩) n cap) (A ++ (x', r) :: B) := by
  obtain ⟨rfl, h1, h2, h3, h4, h5⟩ := h.at
  have nd := h.nd
  unfold fp at nd
  rw [foot_mid] at nd
  simp only [Value.ownBlock, Option.toList_some, List.singleton_append, List.nodup_cons, List.nodup_append, List.mem_append, not_or] at nd
  obtain ⟨⟨n1, n2, n3⟩, _, ⟨_, _, n6⟩, n7⟩ := nd
  refine ⟨.inr ⟨g, cap, by simp, by simpa using h1, h2, Nat.lt_of_lt_of_le h3 o.size, hc, hfr⟩, fun q hq => ?_, by have := h.nd; unfold fp at this ⊢; rw [foot_mid] at this ⊢; exact this⟩
  have far : ∀ q, q ∈ A ∨ q ∈ B → EntLV w' base q.1 q.2 := fun q hq => by
    refine (h.rows q (by simp; rcases hq with hq | hq <;> simp [hq])).far o.size fun b hb hlt o' => ?_
    have hn : b ∉ F := fun e => by
      rcases hq with hq | hq
      · have hm : b ∈ foot A := List.mem_flatMap.2 ⟨q, hq, hb⟩
        rcases hF b e with rfl | e2
        · exact n1 hm
        · exact n7 b hm b (.inl e2) rfl
      · have hm : b ∈ foot B := List.mem_flatMap.2 ⟨q, hq, hb⟩
        rcases hF b e with rfl | e2
        · exact n3 hm
        · exact n6 b e2 b hm rfl
    exact ⟨o.cell b o' hlt hn, o.frozen b o' hlt hn⟩
  simp only [List.mem_append, List.mem_cons] at hq
  rcases hq with hq | rfl | hq
  · exact far q (.inl hq)
  · exact hx
  · exact far q (.inr hq)
theorem rblk_off {w : World} {base g n cap : Nat} {A B : List (Ent × EntR)} {x : Ent} {r : EntR} (h : EntsLV w base (.slice (some ⟨g, 0, none⟩) n cap) (A ++ (x, r) :: B)) : g ∉ rblk r := by
  have nd := h.nd
  unfold fp at nd
  rw [foot_mid] at nd
  simp only [Value.ownBlock, Option.toList_some, List.singleton_append, List.nodup_cons, List.nodup_append, List.mem_append, not_or] at nd
  exact nd.1.2.1
/-- A cell of an entry is written. -/
theorem EntsLV.set {w : World} {base g n cap k : Nat} {A B : List (Ent × EntR)} {x : Ent} {r : EntR} (h : EntsLV w base (.slice (some ⟨g, 0, none⟩) n cap) (A ++ (x, r) :: B)) (hk : A.length = k) (j : Nat) (hj : j < 13) (u : Value) (x' : Ent) (e : entW x' r = (entW x r).set j u) (eh : x'.hs = x.hs) (eb : x'.bl = x.bl) (et : x'.ts = x.ts) : EntsLV (w.setCell ⟨g, k * 13 + j, none⟩ u) base (.slice (some ⟨g, 0, none⟩) n cap) (A ++ (x', r) :: B) := by
  subst hk
  obtain ⟨hn, h1, h2, h3, h4, h5⟩ := h.at
  have hx := h.rows (x, r) (by simp)
  have hg := rblk_off h
  refine h.mid (Out.set w g _ u) (fun b hb => .inl (by simpa using hb)) x' ?_ (fun i q hq j' hj' => ?_) (fun o => by rw [World.frozen?_setCell]; exact h5 o)
  · have := hx.far (w' := w.setCell ⟨g, A.length * 13 + j, none⟩ u) (by simp) fun b hb hlt o' => ⟨(Out.set w g _ u).cell b o' hlt (by simp; rintro rfl; exact hg hb), World.frozen?_setCell _ _ _ _⟩
    obtain ⟨a1, a2, a3, a4, a5, a6, a7, a8, a9, a10, a11, a12⟩ := this
    simp only at a1 a2 a3 a4 a5 a6 a7 a8 a9 a10 a11 a12
    rw [← eh] at a1 a4 a7 a8 a10
    rw [← eb] at a2 a5 a7 a9 a11
    rw [← et] at a3 a6 a8 a9 a12
    exact ⟨a1, a2, a3, a4, a5, a6, a7, a8, a9, a10, a11, a12⟩
  · by_cases hi : i = A.length
    · subst hi
      rw [mid_eq] at hq
      obtain rfl := Option.some.inj hq
      have old := h4 A.length (x, r) (mid_eq _ _ _)
      by_cases hjj : j' = j
      · subst hjj
        have c := old j' hj
        rw [World.cell?_setCell_same _ _ _ (c.trans (List.getElem?_eq_getElem (by rw [entW_len]; omega))), e, List.getElem?_set_self (by rw [entW_len]; omega)]
      · rw [World.cell?_setCell_other _ _ _ _ (by intro e2; have := congrArg Addr.off e2; simp at this; omega), old j' hj', e, List.getElem?_set_ne (by omega)]
    · rw [World.cell?_setCell_other _ _ _ _ (by intro e2; have := congrArg Addr.off e2; simp at this; omega)]
      exact h4 i q (by rw [mid_ne A B (x, r) (x', r) i hi]; exact hq) j' hj'
/-- The lists of an entry are written. -/
theorem EntsLV.keepG {w w' : World} {u : Value} {base g n cap : Nat} {A B : List (Ent × EntR)} {x x' : Ent} {r : EntR} (h : EntsLV w base (.slice (some ⟨g, 0, none⟩) n cap) (A ++ (x, r) :: B)) (o : HAV u w w') (hu : ∀ b ∈ u.ownBlock.toList, b ∈ rblk r) (e : entW x' r = entW x r) (hx : EntLV w' base x' r) : EntsLV w' base (.slice (some ⟨g, 0, none⟩) n cap) (A ++ (x', r) :: B) := by
  obtain ⟨hn, h1, h2, h3, h4, h5⟩ := h.at
  have hg := rblk_off h
  have hgu : g ∉ u.ownBlock.toList := fun hm => hg (hu g hm)
  refine h.mid (Out.hav o) (fun b hb => .inr (hu b hb)) x' hx (fun i q hq j hj => ?_) (fun o' => by rw [(Out.hav o).frozen g o' h3 hgu]; exact h5 o')
  rw [(Out.hav o).cell g _ h3 hgu]
  by_cases hi : i = A.length
  · subst hi
    rw [mid_eq] at hq
    obtain rfl := Option.some.inj hq
    rw [h4 A.length (x, r) (mid_eq _ _ _) j hj, e]
  · exact h4 i q (by rw [mid_ne A B (x, r) (x', r) i hi]; exact hq) j hj
theorem own_rblk1 (r : EntR) (n : Nat) : ∀ b ∈ (Value.slice r.ha n r.hc).ownBlock.toList, b ∈ rblk r := fun b hb => by
  obtain ⟨ha, hc, ba, bc, ta, tc⟩ := r
  cases ha <;> simp [Value.ownBlock, rblk] at hb ⊢; exact .inl hb
theorem own_rblk2 (r : EntR) (n : Nat) : ∀ b ∈ (Value.slice r.ba n r.bc).ownBlock.toList, b ∈ rblk r := fun b hb => by
  obtain ⟨ha, hc, ba, bc, ta, tc⟩ := r
  cases ba <;> simp [Value.ownBlock, rblk] at hb ⊢; exact .inr (.inl hb)
theorem own_rblk3 (r : EntR) (n : Nat) : ∀ b ∈ (Value.slice r.ta n r.tc).ownBlock.toList, b ∈ rblk r := fun b hb => by
  obtain ⟨ha, hc, ba, bc, ta, tc⟩ := r
  cases ta <;> simp [Value.ownBlock, rblk] at hb ⊢; exact .inr (.inr hb)
theorem ne_sw {u v : Value} (h : ∀ g, u.ownBlock = some g → v.ownBlock ≠ some g) : ∀ g, v.ownBlock = some g → u.ownBlock ≠ some g := fun g h1 h2 => h g h2 h1
theorem EntsLV.hs {w w' : World} {base g n cap : Nat} {A B : List (Ent × EntR)} {x : Ent} {r : EntR} (h : EntsLV w base (.slice (some ⟨g, 0, none⟩) n cap) (A ++ (x, r) :: B)) (hs' : List Hdr) (hl : x.hs.length = hs'.length) (o : HAV (.slice r.ha x.hs.length r.hc) w w') (hn : HLV w' (.slice r.ha x.hs.length r.hc) hs') : EntsLV w' base (.slice (some ⟨g, 0, none⟩) n cap) (A ++ ({ x with hs := hs' }, r) :: B) := by
  have hx := h.rows (x, r) (by simp)
  refine h.keepG o (own_rblk1 r _) (by unfold entW; simp [hl]) ?_
  obtain ⟨a1, a2, a3, a4, a5, a6, a7, a8, a9, a10, a11, a12⟩ := hx
  simp only at a1 a2 a3 a4 a5 a6 a7 a8 a9 a10 a11 a12
  have b2 := a2.av o (ne_sw a7)
  have b3 := a3.av o (ne_sw a8)
  rw [hl] at hn a4 a7 a8 a10
  exact ⟨hn, b2, b3, a4, a5, a6, a7, a8, a9, a10, a11, a12⟩
theorem EntsLV.bl {w w' : World} {base g n cap : Nat} {A B : List (Ent × EntR)} {x : Ent} {r : EntR} (h : EntsLV w base (.slice (some ⟨g, 0, none⟩) n cap) (A ++ (x, r) :: B)) (bl' : List UInt8) (hl : x.bl.length = bl'.length) (o : HAV (.slice r.ba x.bl.length r.bc) w w') (hn : BLV w' (.slice r.ba x.bl.length r.bc) bl') : EntsLV w' base (.slice (some ⟨g, 0, none⟩) n cap) (A ++ ({ x with bl := bl' }, r) :: B) := by
  have hx := h.rows (x, r) (by simp)
  refine h.keepG o (own_rblk2 r _) (by unfold entW; simp [hl]) ?_
  obtain ⟨a1, a2, a3, a4, a5, a6, a7, a8, a9, a10, a11, a12⟩ := hx
  simp only at a1 a2 a3 a4 a5 a6 a7 a8 a9 a10 a11 a12
  have b1 := a1.av o a7
  have b3 := a3.av o (ne_sw a9)
  rw [hl] at hn a5 a7 a9 a11
  exact ⟨b1, hn, b3, a4, a5, a6, a7, a8, a9, a10, a11, a12⟩
theorem EntsLV.ts {w w' : World} {base g n cap : Nat} {A B : List (Ent × EntR)} {x : Ent} {r : EntR} (h : EntsLV w base (.slice (some ⟨g, 0, none⟩) n cap) (A ++ (x, r) :: B)) (ts' : List ByteArray) (hl : x.ts.length = ts'.length) (o : HAV (.slice r.ta x.ts.length r.tc) w w') (hn : TLV w' (.slice r.ta x.ts.length r.tc) ts') : EntsLV w' base (.slice (some ⟨g, 0, none⟩) n cap) (A ++ ({ x with ts := ts' }, r) :: B) := by
  have hx := h.rows (x, r) (by simp)
  refine h.keepG o (own_rblk3 r _) (by unfold entW; simp [hl]) ?_
  obtain ⟨a1, a2, a3, a4, a5, a6, a7, a8, a9, a10, a11, a12⟩ := hx
  simp only at a1 a2 a3 a4 a5 a6 a7 a8 a9 a10 a11 a12
  have b1 := a1.av o a8
  have b2 := a2.av o a9
  rw [hl] at hn a6 a8 a9 a12
  exact ⟨b1, b2, hn, a4, a5, a6, a7, a8, a9, a10, a11, a12⟩
/-- Two lists that share no memory. -/
structure StoLV (w : World) (base : Nat) (v1 v2 : Value) (l1 l2 : List (Ent × EntR)) : Prop where
  t : EntsLV w base v1 l1
  k : EntsLV w base v2 l2
  nd : ∀ b ∈ fp v1 l1, b ∉ fp v2 l2
theorem StoO.lv {w : World} {base : Nat} {v1 v2 : Value} {l1 l2 : List (Ent × EntR)} (h : StoO w base v1 v2 l1 l2) : StoLV w base v1 v2 l1 l2 := ⟨h.t.lv, h.k.lv, h.nd⟩
theorem StoLV.below {w w' : World} {base : Nat} {v1 v2 : Value} {l1 l2 : List (Ent × EntR)} (h : StoLV w base v1 v2 l1 l2) (hb : Below w.heap.size w w') : StoLV w' base v1 v2 l1 l2 := ⟨h.t.below hb, h.k.below hb, h.nd⟩
theorem StoLV.out {w w' : World} {F : List Nat} {base : Nat} {v1 v2 : Value} {l1 l2 : List (Ent × EntR)} (h : StoLV w base v1 v2 l1 l2) (o : Out F w w') (h1 : ∀ b ∈ F, b ∉ fp v1 l1) (h2 : ∀ b ∈ F, b ∉ fp v2 l2) : StoLV w' base v1 v2 l1 l2 :=
  ⟨h.t.out o fun b hb e => h1 b e hb, h.k.out o fun b hb e => h2 b e hb, h.nd⟩
theorem Out.of_above {hi : Nat} {w w' : World} (h : Above hi w w') : Out (List.range hi) w w' :=
  ⟨h.size, fun b o hb hn => h.cell b o (by simp at hn; exact hn) hb, fun b o hb hn => h.frozen b o (by simp at hn; exact hn) hb⟩
theorem StoLV.above {w w' : World} {hi base : Nat} {v1 v2 : Value} {l1 l2 : List (Ent × EntR)} (h : StoLV w base v1 v2 l1 l2) (k : Above hi w w') (hb : hi ≤ base) : StoLV w' base v1 v2 l1 l2 :=
  h.out (.of_above k) (fun b hm e => by have := h.t.ge e; simp at hm; omega) (fun b hm e => by have := h.k.ge e; simp at hm; omega)
theorem StoLV.lower {w : World} {base b0 : Nat} {v1 v2 : Value} {l1 l2 : List (Ent × EntR)} (h : StoLV w base v1 v2 l1 l2) (hb : b0 ≤ base) : StoLV w b0 v1 v2 l1 l2 := ⟨h.t.lower hb, h.k.lower hb, h.nd⟩
end Go.Proofs.YtaphofdcoddopaaGreatDoor
/-
  Entries of one's own, marked all over: what they hold then.
-/
namespace Go.Proofs.YtaphofdcoddopaaGreatDoor
open Go.ChangeShapes Go.WideShapes Go.ChangeAt Go.RowKit Go.Sort
def mkBL (k n : Nat) : List UInt8 := (List.range n).map fun j => UInt8.ofNat ((k + j) % 256)
theorem mkBL_len (k n : Nat) : (mkBL k n).length = n := by simp [mkBL]
theorem mkBL_get {k n i : Nat} (h : i < n) : (mkBL k n)[i]? = some (UInt8.ofNat ((k + i) % 256)) := by simp [mkBL, h]
theorem mk_byte (k : Nat) : (((UInt8.ofNat (k % 256)).toNat : Nat) : Int) = ((k : Nat) : Int) % 256 := by
  have : (UInt8.ofNat (k % 256)).toNat = k % 256 := by simp [UInt8.toNat_ofNat']
  rw [this]; omega
theorem markByteS_blv (w : World) (v : Value) (l : List UInt8) (k : Nat) (hk : k ≤ 100000000000000) (hl : l.length ≤ 1048576) (h : BLV w v l) (base : Nat) (hb : ∀ b, v.ownBlock = some b → base ≤ b) (hbs : base ≤ w.heap.size) :
    Calls Tryz.prog 84 #[v, .int .i64 (k : Int)] w fun e w' => e = .returned (.int .i64 ((k + l.length : Nat) : Int)) ∧ BLV w' v (mkBL k l.length) ∧ HAV v w w' ∧ Below base w w' := by
  rcases h with ⟨rfl, rfl⟩ | ⟨g, c, rfl, hg, hi, hf⟩
  · exact (markByteS_nil w none 0 k).mono fun _ _ ⟨h1, h2⟩ => ⟨h1, .inl ⟨rfl, rfl⟩, .below h2, h2.mono hbs⟩
  · refine (markByteS_row w g l.length c k base hl hk (hb g rfl) hg ?_).mono ?_
    · intro j hj
      have := hi j l[j] (List.getElem?_eq_getElem hj)
      rw [Nat.zero_add] at this
      exact ⟨⟨_, this⟩, hf j⟩
    · rintro e w' ⟨h1, h2, h3, h4⟩
      refine ⟨h1, .inr ⟨g, c, by rw [mkBL_len], by rw [h3.size]; exact hg, fun i q hq => ?_, fun o => by rw [h3.frozen]; exact hf o⟩, ⟨Nat.le_of_eq h3.size.symm, h3.cell, fun b o _ _ => h3.frozen b o⟩, h4⟩
      have hi := (List.getElem?_eq_some_iff.1 hq).1
      rw [mkBL_len] at hi
      rw [mkBL_get hi] at hq
      obtain rfl := Option.some.inj hq
      rcases h2 with h2 | ⟨g', c', e', _, h2⟩
      · omega
      · simp only [Value.slice.injEq, Option.some.injEq, Addr.mk.injEq] at e'
        obtain ⟨⟨rfl, _⟩, _, rfl⟩ := e'
        rw [Nat.zero_add, h2 i hi, mk_byte]
theorem BLV.markB {w : World} {v : Value} {k n : Nat} (h : BLV w v (mkBL k n)) : MarkB w v k n := by
  rcases h with ⟨_, h⟩ | ⟨g, c, rfl, hg, hi, hf⟩
  · have := congrArg List.length h
    rw [mkBL_len] at this
    exact .inl this
  · refine .inr ⟨g, c, by rw [mkBL_len], hg, fun i hi' => ?_⟩
    have := hi i _ (mkBL_get hi')
    rw [Nat.zero_add] at this
    rw [this, mk_byte]
def bq (n : Int) : Bool := n % 3 == 0
/-- An entry once it was marked from number k on; m: behind its head lines and its body. -/
def mkEnt (k : Nat) (x : Ent) : Ent :=
  { key := mkT k, st := (k : Int) + 1, hs := mkHL (k + 1 + 1) x.hs.length, bl := mkBL (k + 1 + 1 + 2 * x.hs.length) x.bl.length,
    t := ((k + 1 + 1 + 2 * x.hs.length + x.bl.length : Nat) : Int), g := ((k + 1 + 1 + 2 * x.hs.length + x.bl.length : Nat) : Int) + 1, l := ((k + 1 + 1 + 2 * x.hs.length + x.bl.length : Nat) : Int) + 1 + 1, s := ((k + 1 + 1 + 2 * x.hs.length + x.bl.length : Nat) : Int) + 1 + 1 + 1, e := ((k + 1 + 1 + 2 * x.hs.length + x.bl.length : Nat) : Int) + 1 + 1 + 1 + 1,
    b1 := bq (((k + 1 + 1 + 2 * x.hs.length + x.bl.length : Nat) : Int) + 1 + 1 + 1 + 1 + 1), b2 := bq (((k + 1 + 1 + 2 * x.hs.length + x.bl.length : Nat) : Int) + 1 + 1 + 1 + 1 + 1 + 1),
    ts := mkTL (k + 1 + 1 + 2 * x.hs.length + x.bl.length + 7) x.ts.length, pins := ((k + 1 + 1 + 2 * x.hs.length + x.bl.length + 7 + x.ts.length : Nat) : Int) }
def nxt (x : Ent) : Nat := 10 + 2 * x.hs.length + x.bl.length + x.ts.length
def mkEs : Nat → List (Ent × EntR) → List (Ent × EntR)
  | _, [] => []
  | k, q :: l => (mkEnt k q.1, q.2) :: mkEs (k + nxt q.1) l
def nxts : Nat → List (Ent × EntR) → Nat
  | k, [] => k
  | k, q :: l => nxts (k + nxt q.1) l
theorem mkEs_len (k : Nat) (l : List (Ent × EntR)) : (mkEs k l).length = l.length := by
  induction l generalizing k with
  | nil => rfl
  | cons q l ih => simp [mkEs, ih]
theorem mkEs_app (k : Nat) (l m : List (Ent × EntR)) : mkEs k (l ++ m) = mkEs k l ++ mkEs (nxts k l) m := by
  induction l generalizing k with
  | nil => rfl
  | cons q l ih => simp [mkEs, nxts, ih]
theorem nxts_app (k : Nat) (l m : List (Ent × EntR)) : nxts k (l ++ m) = nxts (nxts k l) m := by
  induction l generalizing k with
  | nil => rfl
  | cons q l ih => simp [nxts, ih]
theorem nxts_ge (k : Nat) (l : List (Ent × EntR)) : k ≤ nxts k l := by
  induction l generalizing k with
  | nil => exact Nat.le_refl _
  | cons q l ih => have := ih (k + nxt q.1); simp only [nxts]; omega
theorem nxts_le (k : Nat) (l : List (Ent × EntR)) (h : ∀ q ∈ l, EntFit q.1) : nxts k l ≤ k + l.length * 4194314 := by
  induction l generalizing k with
  | nil => simp [nxts]
  | cons q l ih =>
    have := ih (k + nxt q.1) (fun p hp => h p (by simp [hp]))
    have f := h q (by simp)
    have := f.h; have := f.b; have := f.t
    simp only [nxts, List.length_cons, nxt] at *
    omega
theorem foot_mkEs (k : Nat) (l : List (Ent × EntR)) : foot (mkEs k l) = foot l := by
  induction l generalizing k with
  | nil => rfl
  | cons q l ih => have := ih (k + nxt q.1); simp only [foot, mkEs, List.flatMap_cons] at *; rw [this]
/-- While one of the entries is marked. -/
structure MK (w : World) (F : List Nat) (base g n cap k : Nat) (A B : List (Ent × EntR)) (x : Ent) (r : EntR) (W : World) : Prop where
  en : EntsLV W base (.slice (some ⟨g, 0, none⟩) n cap) (A ++ (x, r) :: B)
  ou : Out F w W
  be : Below base w W
  le : base ≤ w.heap.size
  gF : g ∈ F
  rF : ∀ b ∈ rblk r, b ∈ F
  hk : A.length = k
section
variable {w W W' : World} {F : List Nat} {base g n cap k : Nat} {A B : List (Ent × EntR)} {x : Ent} {r : EntR}
theorem MK.below (h : MK w F base g n cap k A B x r W) (b : Below W.heap.size W W') : MK w F base g n cap k A B x r W' :=
  ⟨h.en.below b, h.ou.trans (.below b), h.be.trans (b.mono (Nat.le_trans h.le h.be.size)), h.le, h.gF, h.rF, h.hk⟩
theorem MK.set (h : MK w F base g n cap k A B x r W) (j : Nat) (hj : j < 13) (u : Value) (x' : Ent) (e : entW x' r = (entW x r).set j u) (eh : x'.hs = x.hs) (eb : x'.bl = x.bl) (et : x'.ts = x.ts) : MK w F base g n cap k A B x' r (W.setCell ⟨g, k * 13 + j, none⟩ u) :=
  ⟨h.en.set h.hk j hj u x' e eh eb et, h.ou.trans ((Out.set W g _ u).mono (by simp [h.gF])), h.be.setCell h.en.at.2.2.1 u, h.le, h.gF, h.rF, h.hk⟩
theorem MK.hs (h : MK w F base g n cap k A B x r W) (hs' : List Hdr) (hl : x.hs.length = hs'.length) (o : HAV (.slice r.ha x.hs.length r.hc) W W') (b : Below base W W') (hn : HLV W' (.slice r.ha x.hs.length r.hc) hs') : MK w F base g n cap k A B { x with hs := hs' } r W' :=
  ⟨h.en.hs hs' hl o hn, h.ou.trans ((Out.hav o).mono fun q hq => h.rF q (own_rblk1 r _ q hq)), h.be.trans b, h.le, h.gF, h.rF, h.hk⟩
theorem MK.bl (h : MK w F base g n cap k A B x r W) (bl' : List UInt8) (hl : x.bl.length = bl'.length) (o : HAV (.slice r.ba x.bl.length r.bc) W W') (b : Below base W W') (hn : BLV W' (.slice r.ba x.bl.length r.bc) bl') : MK w F base g n cap k A B { x with bl := bl' } r W' :=
  ⟨h.en.bl bl' hl o hn, h.ou.trans ((Out.hav o).mono fun q hq => h.rF q (own_rblk2 r _ q hq)), h.be.trans b, h.le, h.gF, h.rF, h.hk⟩
theorem MK.ts (h : MK w F base g n cap k A B x r W) (ts' : List ByteArray) (hl : x.ts.length = ts'.length) (o : HAV (.slice r.ta x.ts.length r.tc) W W') (b : Below base W W') (hn : TLV W' (.slice r.ta x.ts.length r.tc) ts') : MK w F base g n cap k A B { x with ts := ts' } r W' :=
  ⟨h.en.ts ts' hl o hn, h.ou.trans ((Out.hav o).mono fun q hq => h.rF q (own_rblk3 r _ q hq)), h.be.trans b, h.le, h.gF, h.rF, h.hk⟩
theorem MK.row (h : MK w F base g n cap k A B x r W) : EntLV W base x r := h.en.rows (x, r) (by simp)
theorem MK.sz (h : MK w F base g n cap k A B x r W) : base ≤ W.heap.size := Nat.le_trans h.le h.be.size
theorem MK.cells (h : MK w F base g n cap k A B x r W) : ∀ j, j < 13 → W.cell? ⟨g, k * 13 + j, none⟩ = (entW x r)[j]? := by
  have := h.en.at.2.2.2.2.1 A.length (x, r) (mid_eq _ _ _)
  rw [h.hk] at this
  exact this
theorem MK.fr (h : MK w F base g n cap k A B x r W) : ∀ o, W.frozen? ⟨g, o, none⟩ = false := h.en.at.2.2.2.2.2
end
set_option maxRecDepth 100000 in
set_option maxHeartbeats 16000000 in
theorem markES_o (w : World) (base G cap c0 : Nat) (l : List (Ent × EntR)) (hl : l.length ≤ 1048576) (hf : ∀ q ∈ l, EntFit q.1) (h : EntsLV w base (.slice (some ⟨G, 0, none⟩) l.length cap) l) (hbs : base ≤ w.heap.size) (hc0 : 1 ≤ c0) (hc1 : c0 ≤ 10000000000000) :
    Calls Tryz.prog 56 #[.slice (some ⟨G, 0, none⟩) l.length cap, .int .i64 (c0 : Int)] w fun e w' => e = .returned (.int .i64 (nxts c0 l : Int)) ∧ EntsLV w' base (.slice (some ⟨G, 0, none⟩) l.length cap) (mkEs c0 l) ∧ Out (G :: foot l) w w' ∧ Below base w w' := by
  have HFT : Hid (∀ q ∈ l, EntFit q.1) := hf
  have HBS : Hid (base ≤ w.heap.size) := hbs
  obtain ⟨n, hn0⟩ : ∃ n, l.length = n := ⟨_, rfl⟩
  rw [hn0] at hl h ⊢
  have HN : Hid (l.length = n) := hn0
  have HST : Hid (EntsLV w base (.slice (some ⟨G, 0, none⟩) n cap) l) := h
  clear hn0 h hf hbs
  go_enter Tryz.func56, Tryz.ntmps56
  go_wp2_with fail
  go_loopw [1, 5] (fun x i wr => ∃ A B : List (Ent × EntR), l = A ++ B ∧ i = .int .i64 (A.length : Int) ∧ x = .int .i64 (nxts c0 A : Int) ∧ EntsLV wr base (.slice (some ⟨G, 0, none⟩) n cap) (mkEs c0 A ++ B) ∧ Out (G :: foot l) w wr ∧ Below base w wr) (fun _ i _ => n - (intOf i).toNat)
  case atStart => exact ⟨[], l, rfl, rfl, rfl, HST.out, Out.refl _ _, Below.refl _ _⟩
  case round =>
    obtain ⟨A, B, hAB, rfl, rfl, ho, hout, hb⟩ := hrel
    clear HST
    obtain ⟨k, hk⟩ : ∃ k, A.length = k := ⟨_, rfl⟩
    obtain ⟨c, hc⟩ : ∃ c, nxts c0 A = c := ⟨_, rfl⟩
    have HCA : Hid (nxts c0 A = c ∧ A.length = k) := ⟨hc, hk⟩
    have hlen : n = k + B.length := by have := HN.out; rw [hAB, List.length_append] at this; omega
    have hcge : 1 ≤ c := by have := nxts_ge c0 A; omega
    have hcle : c ≤ c0 + k * 4194314 := by have := nxts_le c0 A (fun q hq => HFT.out q (by rw [hAB]; simp [hq])); omega
    rw [hk, hc]
    cases B with
    | cons q B =>
      obtain ⟨x, r⟩ := q
      simp only [List.length_cons] at hlen
      have hkn : k < n := by omega
      have hnl : k ≤ 1048576 := by omega
      clear hlen
      have ft := HFT.out (x, r) (by rw [hAB]; simp)
      have HAB : Hid (l = A ++ (x, r) :: B) := hAB
      obtain ⟨A', hA'⟩ : ∃ A', mkEs c0 A = A' := ⟨_, rfl⟩
      have HA' : Hid (mkEs c0 A = A') := hA'
      rw [hA'] at ho
      have Q0 : Hid (MK w (G :: foot l) base G n cap k A' B x r wr) := ⟨ho, hout, hb, HBS.out, by simp, fun b hb => by rw [hAB, foot_mid]; simp [hb], by rw [← hA', mkEs_len, hk]⟩
      clear ho hout hb hAB hk hc hA'
      obtain ⟨f1, f2, f3⟩ := ft
      simp only at f1 f2 f3
      have CT : Hid (Calls Tryz.prog 101 #[.int .i64 (c : Int)] wr fun e w' => e = .returned (.string (mkT c)) ∧ Below wr.heap.size wr w') := markText_any c (by omega) (by omega) wr
      have gk : (k : Int) < n := by omega
      have gk0 : (0 : Int) ≤ k := by omega
      go_wp2_with fail
      refine CT.out.mono ?_
      rintro e w1 ⟨rfl, hb1⟩
      have Q1 := Q0.out.below hb1
      have g0 : w1.cell? ⟨G, k * 13, none⟩ = some (.string x.key) := Q1.cells 0 (by omega)
      have g1 : w1.cell? ⟨G, k * 13 + 1, none⟩ = some (.int .i64 x.st) := Q1.cells 1 (by omega)
      have y2 : w1.cell? ⟨G, k * 13 + 2, none⟩ = some (.slice r.ha x.hs.length r.hc) := Q1.cells 2 (by omega)
      have f0 := Q1.fr (k * 13)
      have fz1 := Q1.fr (k * 13 + 1)
      obtain ⟨V1, hV1⟩ : ∃ V, V = (w1.setCell ⟨G, k * 13, none⟩ (.string (mkT c))).setCell ⟨G, k * 13 + 1, none⟩ (.int .i64 ((c : Int) + 1)) := ⟨_, rfl⟩
      have HV1 : Hid (V1 = (w1.setCell ⟨G, k * 13, none⟩ (.string (mkT c))).setCell ⟨G, k * 13 + 1, none⟩ (.int .i64 ((c : Int) + 1))) := hV1
      have Q2 : Hid (MK w (G :: foot l) base G n cap k A' B { x with key := mkT c, st := (c : Int) + 1 } r V1) := by
        rw [hV1]
        exact (Q1.set 0 (by omega) (.string (mkT c)) { x with key := mkT c } rfl rfl rfl rfl).set 1 (by omega) (.int .i64 ((c : Int) + 1)) { x with key := mkT c, st := (c : Int) + 1 } rfl rfl rfl rfl
      clear hV1 hb1 CT Q0 Q1
      have e1 : IntKind.i64.wrap ((c : Int) + 1) = (c : Int) + 1 := by unfold IntKind.wrap; simp [IntKind.signed, IntKind.bits]; omega
      have e2 : IntKind.i64.wrap ((c : Int) + 1 + 1) = (c : Int) + 1 + 1 := by unfold IntKind.wrap; simp [IntKind.signed, IntKind.bits]; omega
      obtain ⟨d, hd⟩ : ∃ d : Nat, Hid (c + 1 + 1 + 2 * x.hs.length = d) := ⟨_, rfl⟩
      have CH : Hid (Calls Tryz.prog 83 #[.slice r.ha x.hs.length r.hc, .int .i64 ((c : Int) + 1 + 1)] V1 fun e w' => e = .returned (.int .i64 (d : Int)) ∧ MK w (G :: foot l) base G n cap k A' B { x with key := mkT c, st := (c : Int) + 1, hs := mkHL (c + 1 + 1) x.hs.length } r w') := by
        have := markHeaderS_lvk V1 (.slice r.ha x.hs.length r.hc) x.hs (c + 1 + 1) (by omega) (by omega) f1 Q2.out.row.h base Q2.out.row.gh Q2.out.sz
        rw [show (((c + 1 + 1 : Nat)) : Int) = (c : Int) + 1 + 1 from by omega, hd.out] at this
        exact this.mono (fun e w' h => ⟨h.1, Q2.out.hs _ (mkHL_len _ _).symm h.2.2.1 h.2.2.2 h.2.1⟩)
      go_wp2_with fail
      rw [← HV1.out]
      refine CH.out.mono ?_
      rintro e w3 ⟨rfl, Q3⟩
      have HQ3 : Hid _ := Q3
      clear Q2 CH HV1 y2 g0 f0 g1 fz1 e1 e2 Q3
      have y3 : w3.cell? ⟨G, k * 13 + 3, none⟩ = some (.slice r.ba x.bl.length r.bc) := HQ3.out.cells 3 (by omega)
      have hdle : d ≤ c + 2 + 2 * x.hs.length := by have := hd.out; omega
      have hdge : 1 ≤ d := by have := hd.out; omega
      obtain ⟨m, hm⟩ : ∃ m : Nat, Hid (d + x.bl.length = m) := ⟨_, rfl⟩
      have CB : Hid (Calls Tryz.prog 84 #[.slice r.ba x.bl.length r.bc, .int .i64 (d : Int)] w3 fun e w' => e = .returned (.int .i64 (m : Int)) ∧ MK w (G :: foot l) base G n cap k A' B { x with key := mkT c, st := (c : Int) + 1, hs := mkHL (c + 1 + 1) x.hs.length, bl := mkBL d x.bl.length } r w') := by
        have := markByteS_blv w3 (.slice r.ba x.bl.length r.bc) x.bl d (by omega) f2 HQ3.out.row.b base HQ3.out.row.gb HQ3.out.sz
        rw [hm.out] at this
        exact this.mono (fun e w' h => ⟨h.1, HQ3.out.bl _ (mkBL_len _ _).symm h.2.2.1 h.2.2.2 h.2.1⟩)
      go_wp2_with fail
      refine CB.out.mono ?_
      rintro e w4 ⟨rfl, Q4⟩
      have HQ4 : Hid _ := Q4
      clear HQ3 CB y3 Q4
      have hmle : m ≤ c + 2 + 2 * x.hs.length + x.bl.length := by have := hm.out; omega
      have hmge : 1 ≤ m := by have := hm.out; omega
      have g4 : w4.cell? ⟨G, k * 13 + 4, none⟩ = some (.int .i64 x.t) := HQ4.out.cells 4 (by omega)
      have g5 : w4.cell? ⟨G, k * 13 + 5, none⟩ = some (.int .i64 x.g) := HQ4.out.cells 5 (by omega)
      have g6 : w4.cell? ⟨G, k * 13 + 6, none⟩ = some (.int .i64 x.l) := HQ4.out.cells 6 (by omega)
      have g7 : w4.cell? ⟨G, k * 13 + 7, none⟩ = some (.int .i64 x.s) := HQ4.out.cells 7 (by omega)
      have g8 : w4.cell? ⟨G, k * 13 + 8, none⟩ = some (.int .i64 x.e) := HQ4.out.cells 8 (by omega)
      have g9 : w4.cell? ⟨G, k * 13 + 9, none⟩ = some (.bool x.b1) := HQ4.out.cells 9 (by omega)
      have g10 : w4.cell? ⟨G, k * 13 + 10, none⟩ = some (.bool x.b2) := HQ4.out.cells 10 (by omega)
      have y11 : w4.cell? ⟨G, k * 13 + 11, none⟩ = some (.slice r.ta x.ts.length r.tc) := HQ4.out.cells 11 (by omega)
      have fz4 := HQ4.out.fr (k * 13 + 4)
      have fz5 := HQ4.out.fr (k * 13 + 5)
      have fz6 := HQ4.out.fr (k * 13 + 6)
      have fz7 := HQ4.out.fr (k * 13 + 7)
      have fz8 := HQ4.out.fr (k * 13 + 8)
      have fz9 := HQ4.out.fr (k * 13 + 9)
      have fz10 := HQ4.out.fr (k * 13 + 10)
      have s1 : IntKind.i64.wrap ((m : Int) + 1) = (m : Int) + 1 := by unfold IntKind.wrap; simp [IntKind.signed, IntKind.bits]; omega
      have s2 : IntKind.i64.wrap ((m : Int) + 1 + 1) = (m : Int) + 1 + 1 := by unfold IntKind.wrap; simp [IntKind.signed, IntKind.bits]; omega
      have s3 : IntKind.i64.wrap ((m : Int) + 1 + 1 + 1) = (m : Int) + 1 + 1 + 1 := by unfold IntKind.wrap; simp [IntKind.signed, IntKind.bits]; omega
      have s4 : IntKind.i64.wrap ((m : Int) + 1 + 1 + 1 + 1) = (m : Int) + 1 + 1 + 1 + 1 := by unfold IntKind.wrap; simp [IntKind.signed, IntKind.bits]; omega
      have s5 : IntKind.i64.wrap ((m : Int) + 1 + 1 + 1 + 1 + 1) = (m : Int) + 1 + 1 + 1 + 1 + 1 := by unfold IntKind.wrap; simp [IntKind.signed, IntKind.bits]; omega
      have s6 : IntKind.i64.wrap ((m : Int) + 1 + 1 + 1 + 1 + 1 + 1) = (m : Int) + 1 + 1 + 1 + 1 + 1 + 1 := by unfold IntKind.wrap; simp [IntKind.signed, IntKind.bits]; omega
      have s7 : IntKind.i64.wrap ((m : Int) + 1 + 1 + 1 + 1 + 1 + 1 + 1) = (m : Int) + 1 + 1 + 1 + 1 + 1 + 1 + 1 := by unfold IntKind.wrap; simp [IntKind.signed, IntKind.bits]; omega
      obtain ⟨V4, hV4⟩ : ∃ V, V = ((((((w4.setCell ⟨G, k * 13 + 4, none⟩ (.int .i64 (m : Int))).setCell ⟨G, k * 13 + 4 + 1, none⟩ (.int .i64 ((m : Int) + 1))).setCell ⟨G, k * 13 + 4 + 2, none⟩ (.int .i64 ((m : Int) + 1 + 1))).setCell ⟨G, k * 13 + 4 + 3, none⟩ (.int .i64 ((m : Int) + 1 + 1 + 1))).setCell ⟨G, k * 13 + 4 + 4, none⟩ (.int .i64 ((m : Int) + 1 + 1 + 1 + 1))).setCell ⟨G, k * 13 + 4 + 5, none⟩ (.bool (((m : Int) + 1 + 1 + 1 + 1 + 1) % 3 == 0))).setCell ⟨G, k * 13 + 4 + 6, none⟩ (.bool (((m : Int) + 1 + 1 + 1 + 1 + 1 + 1) % 3 == 0)) := ⟨_, rfl⟩
      have HV4 : Hid (V4 = ((((((w4.setCell ⟨G, k * 13 + 4, none⟩ (.int .i64 (m : Int))).setCell ⟨G, k * 13 + 4 + 1, none⟩ (.int .i64 ((m : Int) + 1))).setCell ⟨G, k * 13 + 4 + 2, none⟩ (.int .i64 ((m : Int) + 1 + 1))).setCell ⟨G, k * 13 + 4 + 3, none⟩ (.int .i64 ((m : Int) + 1 + 1 + 1))).setCell ⟨G, k * 13 + 4 + 4, none⟩ (.int .i64 ((m : Int) + 1 + 1 + 1 + 1))).setCell ⟨G, k * 13 + 4 + 5, none⟩ (.bool (((m : Int) + 1 + 1 + 1 + 1 + 1) % 3 == 0))).setCell ⟨G, k * 13 + 4 + 6, none⟩ (.bool (((m : Int) + 1 + 1 + 1 + 1 + 1 + 1) % 3 == 0))) := hV4
      have Q5 : Hid (MK w (G :: foot l) base G n cap k A' B { x with key := mkT c, st := (c : Int) + 1, hs := mkHL (c + 1 + 1) x.hs.length, bl := mkBL d x.bl.length, t := (m : Int), g := (m : Int) + 1, l := (m : Int) + 1 + 1, s := (m : Int) + 1 + 1 + 1, e := (m : Int) + 1 + 1 + 1 + 1, b1 := bq ((m : Int) + 1 + 1 + 1 + 1 + 1), b2 := bq ((m : Int) + 1 + 1 + 1 + 1 + 1 + 1) } r V4) := by
        rw [hV4]
        have a4 := HQ4.out.set 4 (by omega) (.int .i64 (m : Int)) { x with key := mkT c, st := (c : Int) + 1, hs := mkHL (c + 1 + 1) x.hs.length, bl := mkBL d x.bl.length, t := (m : Int) } rfl rfl rfl rfl
        have a5 := a4.set 5 (by omega) (.int .i64 ((m : Int) + 1)) { x with key := mkT c, st := (c : Int) + 1, hs := mkHL (c + 1 + 1) x.hs.length, bl := mkBL d x.bl.length, t := (m : Int), g := (m : Int) + 1 } rfl rfl rfl rfl
        have a6 := a5.set 6 (by omega) (.int .i64 ((m : Int) + 1 + 1)) { x with key := mkT c, st := (c : Int) + 1, hs := mkHL (c + 1 + 1) x.hs.length, bl := mkBL d x.bl.length, t := (m : Int), g := (m : Int) + 1, l := (m : Int) + 1 + 1 } rfl rfl rfl rfl
        have a7 := a6.set 7 (by omega) (.int .i64 ((m : Int) + 1 + 1 + 1)) { x with key := mkT c, st := (c : Int) + 1, hs := mkHL (c + 1 + 1) x.hs.length, bl := mkBL d x.bl.length, t := (m : Int), g := (m : Int) + 1, l := (m : Int) + 1 + 1, s := (m : Int) + 1 + 1 + 1 } rfl rfl rfl rfl
        have a8 := a7.set 8 (by omega) (.int .i64 ((m : Int) + 1 + 1 + 1 + 1)) { x with key := mkT c, st := (c : Int) + 1, hs := mkHL (c + 1 + 1) x.hs.length, bl := mkBL d x.bl.length, t := (m : Int), g := (m : Int) + 1, l := (m : Int) + 1 + 1, s := (m : Int) + 1 + 1 + 1, e := (m : Int) + 1 + 1 + 1 + 1 } rfl rfl rfl rfl
        have a9 := a8.set 9 (by omega) (.bool (bq ((m : Int) + 1 + 1 + 1 + 1 + 1))) { x with key := mkT c, st := (c : Int) + 1, hs := mkHL (c + 1 + 1) x.hs.length, bl := mkBL d x.bl.length, t := (m : Int), g := (m : Int) + 1, l := (m : Int) + 1 + 1, s := (m : Int) + 1 + 1 + 1, e := (m : Int) + 1 + 1 + 1 + 1, b1 := bq ((m : Int) + 1 + 1 + 1 + 1 + 1) } rfl rfl rfl rfl
        exact a9.set 10 (by omega) (.bool (bq ((m : Int) + 1 + 1 + 1 + 1 + 1 + 1))) { x with key := mkT c, st := (c : Int) + 1, hs := mkHL (c + 1 + 1) x.hs.length, bl := mkBL d x.bl.length, t := (m : Int), g := (m : Int) + 1, l := (m : Int) + 1 + 1, s := (m : Int) + 1 + 1 + 1, e := (m : Int) + 1 + 1 + 1 + 1, b1 := bq ((m : Int) + 1 + 1 + 1 + 1 + 1), b2 := bq ((m : Int) + 1 + 1 + 1 + 1 + 1 + 1) } rfl rfl rfl rfl
      clear hV4 HQ4
      obtain ⟨p, hp⟩ : ∃ p : Nat, Hid (m + 7 + x.ts.length = p) := ⟨_, rfl⟩
      have CS : Hid (Calls Tryz.prog 85 #[.slice r.ta x.ts.length r.tc, .int .i64 ((m : Int) + 1 + 1 + 1 + 1 + 1 + 1 + 1)] V4 fun e w' => e = .returned (.int .i64 (p : Int)) ∧ MK w (G :: foot l) base G n cap k A' B { x with key := mkT c, st := (c : Int) + 1, hs := mkHL (c + 1 + 1) x.hs.length, bl := mkBL d x.bl.length, t := (m : Int), g := (m : Int) + 1, l := (m : Int) + 1 + 1, s := (m : Int) + 1 + 1 + 1, e := (m : Int) + 1 + 1 + 1 + 1, b1 := bq ((m : Int) + 1 + 1 + 1 + 1 + 1), b2 := bq ((m : Int) + 1 + 1 + 1 + 1 + 1 + 1), ts := mkTL (m + 7) x.ts.length } r w') := by
        have := markStringS_lvk V4 (.slice r.ta x.ts.length r.tc) x.ts (m + 7) (by omega) (by omega) f3 Q5.out.row.t base Q5.out.row.gt Q5.out.sz
        rw [show (((m + 7 : Nat)) : Int) = (m : Int) + 1 + 1 + 1 + 1 + 1 + 1 + 1 from by omega, hp.out] at this
        exact this.mono (fun e w' h => ⟨h.1, Q5.out.ts _ (mkTL_len _ _).symm h.2.2.1 h.2.2.2 h.2.1⟩)
      go_wp2_with fail
      rw [← HV4.out]
      refine CS.out.mono ?_
      rintro e w6 ⟨rfl, Q6⟩
      have HQ6 : Hid _ := Q6
      clear Q5 CS Q6 g4 g5 g6 g7 g8 g9 g10 y11 fz4 fz5 fz6 fz7 fz8 fz9 fz10 s1 s2 s3 s4 s5 s6 s7 HV4
      have g12 : w6.cell? ⟨G, k * 13 + 12, none⟩ = some (.int .i64 x.pins) := HQ6.out.cells 12 (by omega)
      have fz12 := HQ6.out.fr (k * 13 + 12)
      have hple : p ≤ c + 9 + 2 * x.hs.length + x.bl.length + x.ts.length := by have := hp.out; omega
      have t1 : IntKind.i64.wrap ((p : Int) + 1) = (p : Int) + 1 := by unfold IntKind.wrap; simp [IntKind.signed, IntKind.bits]; omega
      have FIN : Hid (l = (A ++ [(x, r)]) ++ B ∧ (A ++ [(x, r)]).length = k + 1 ∧ nxts c0 (A ++ [(x, r)]) = p + 1 ∧ EntsLV (w6.setCell ⟨G, k * 13 + 12, none⟩ (.int .i64 (p : Int))) base (.slice (some ⟨G, 0, none⟩) n cap) (mkEs c0 (A ++ [(x, r)]) ++ B) ∧ Out (G :: foot l) w (w6.setCell ⟨G, k * 13 + 12, none⟩ (.int .i64 (p : Int))) ∧ Below base w (w6.setCell ⟨G, k * 13 + 12, none⟩ (.int .i64 (p : Int)))) := by
        have a := HQ6.out.set 12 (by omega) (.int .i64 (p : Int)) { x with key := mkT c, st := (c : Int) + 1, hs := mkHL (c + 1 + 1) x.hs.length, bl := mkBL d x.bl.length, t := (m : Int), g := (m : Int) + 1, l := (m : Int) + 1 + 1, s := (m : Int) + 1 + 1 + 1, e := (m : Int) + 1 + 1 + 1 + 1, b1 := bq ((m : Int) + 1 + 1 + 1 + 1 + 1), b2 := bq ((m : Int) + 1 + 1 + 1 + 1 + 1 + 1), ts := mkTL (m + 7) x.ts.length, pins := (p : Int) } rfl rfl rfl rfl
        have ed := hd.out
        have em := hm.out
        have ep := hp.out
        obtain ⟨ec, ek⟩ := HCA.out
        refine ⟨by rw [HAB.out]; simp, by simp [ek], ?_, ?_, a.ou, a.be⟩
        · rw [nxts_app, ec]; simp only [nxts, nxt]; omega
        · rw [mkEs_app, ec, HA'.out]
          have e2 : mkEnt c x = { x with key := mkT c, st := (c : Int) + 1, hs := mkHL (c + 1 + 1) x.hs.length, bl := mkBL d x.bl.length, t := (m : Int), g := (m : Int) + 1, l := (m : Int) + 1 + 1, s := (m : Int) + 1 + 1 + 1, e := (m : Int) + 1 + 1 + 1 + 1, b1 := bq ((m : Int) + 1 + 1 + 1 + 1 + 1), b2 := bq ((m : Int) + 1 + 1 + 1 + 1 + 1 + 1), ts := mkTL (m + 7) x.ts.length, pins := (p : Int) } := by
            unfold mkEnt; rw [ed, em, ep]
          simp only [mkEs, e2, List.append_assoc, List.singleton_append]
          exact a.en
      clear HQ6 HAB HA' HCA hd hm hp
      go_wp2_with fail
      go_roundw
      case rel => exact ⟨A ++ [(x, r)], B, FIN.out.1, by rw [FIN.out.2.1]; go_num, by rw [FIN.out.2.2.1]; go_num, FIN.out.2.2.2.1, FIN.out.2.2.2.2.1, FIN.out.2.2.2.2.2⟩
      case measure => simp [intOf]; omega
    | nil =>
      simp only [List.length_nil] at hlen
      have e : k = n := by omega
      clear hlen
      subst e
      simp only [List.append_nil] at hAB ho
      subst hAB
      have HE : Hid (c = nxts c0 l ∧ EntsLV wr base (.slice (some ⟨G, 0, none⟩) k cap) (mkEs c0 l) ∧ Out (G :: foot l) w wr ∧ Below base w wr) := ⟨hc.symm, ho, hout, hb⟩
      clear ho hout hb hc HCA hk hcle hcge
      go_wp2_with fail
      go_ret
      exact ⟨congrArg (fun z : Nat => Ending.returned (.int .i64 (z : Int))) HE.out.1, HE.out.2⟩
end Go.Proofs.YtaphofdcoddopaaGreatDoor
/-
  Entries that were marked: held.
-/
namespace Go.Proofs.YtaphofdcoddopaaGreatDoor
open Go.ChangeShapes Go.WideShapes Go.ChangeAt Go.RowKit Go.Sort
set_option maxRecDepth 100000 in
set_option maxHeartbeats 16000000 in
theorem heldES_o (w : World) (base G cap c0 : Nat) (l : List (Ent × EntR)) (hl : l.length ≤ 1048576) (hf : ∀ q ∈ l, EntFit q.1) (h : EntsLV w base (.slice (some ⟨G, 0, none⟩) l.length cap) (mkEs c0 l)) (hc0 : 1 ≤ c0) (hc1 : c0 ≤ 10000000000000) :
    Calls Tryz.prog 102 #[.slice (some ⟨G, 0, none⟩) l.length cap, .int .i64 (c0 : Int)] w fun e w' => e = .returned (.int .i64 (nxts c0 l : Int)) ∧ Below w.heap.size w w' := by
  have HFT : Hid (∀ q ∈ l, EntFit q.1) := hf
  obtain ⟨n, hn0⟩ : ∃ n, l.length = n := ⟨_, rfl⟩
  rw [hn0] at hl h ⊢
  have HN : Hid (l.length = n) := hn0
  have HST : Hid (EntsLV w base (.slice (some ⟨G, 0, none⟩) n cap) (mkEs c0 l)) := h
  clear hn0 h hf
  go_enter Tryz.func102, Tryz.ntmps102
  go_wp2_with fail
  go_loopw [1, 5] (fun x i wr => ∃ A B : List (Ent × EntR), l = A ++ B ∧ i = .int .i64 (A.length : Int) ∧ x = .int .i64 (nxts c0 A : Int) ∧ Below w.heap.size w wr) (fun _ i _ => n - (intOf i).toNat)
  case atStart => exact ⟨[], l, rfl, rfl, rfl, Below.refl _ _⟩
  case round =>
    obtain ⟨A, B, hAB, rfl, rfl, hb⟩ := hrel
    obtain ⟨k, hk⟩ : ∃ k, A.length = k := ⟨_, rfl⟩
    obtain ⟨c, hc⟩ : ∃ c, nxts c0 A = c := ⟨_, rfl⟩
    have HCA : Hid (nxts c0 A = c ∧ A.length = k) := ⟨hc, hk⟩
    have hlen : n = k + B.length := by have := HN.out; rw [hAB, List.length_append] at this; omega
    have hcge : 1 ≤ c := by have := nxts_ge c0 A; omega
    have hcle : c ≤ c0 + k * 4194314 := by have := nxts_le c0 A (fun q hq => HFT.out q (by rw [hAB]; simp [hq])); omega
    rw [hk, hc]
    have HB : Hid (Below w.heap.size w wr) := hb
    cases B with
    | cons q B =>
      obtain ⟨x, r⟩ := q
      simp only [List.length_cons] at hlen
      have hkn : k < n := by omega
      have hnl : k ≤ 1048576 := by omega
      clear hlen
      have ft := HFT.out (x, r) (by rw [hAB]; simp)
      have HAB : Hid (l = A ++ (x, r) :: B) := hAB
      have hes : mkEs c0 l = mkEs c0 A ++ (mkEnt c x, r) :: mkEs (c + nxt x) B := by rw [hAB, mkEs_app, hc]; rfl
      obtain ⟨d, hd⟩ : ∃ d : Nat, Hid (c + 1 + 1 + 2 * x.hs.length = d) := ⟨_, rfl⟩
      obtain ⟨m, hm⟩ : ∃ m : Nat, Hid (d + x.bl.length = m) := ⟨_, rfl⟩
      obtain ⟨p, hp⟩ : ∃ p : Nat, Hid (m + 7 + x.ts.length = p) := ⟨_, rfl⟩
      have hX : ∀ X, Below w.heap.size w X → EntLV X base (mkEnt c x) r ∧ ∀ j, j < 13 → X.cell? ⟨G, k * 13 + j, none⟩ = (entW (mkEnt c x) r)[j]? := fun X hX => by
        have hh := HST.out.below hX
        rw [hes] at hh
        refine ⟨hh.rows (mkEnt c x, r) (by simp), ?_⟩
        have := hh.at.2.2.2.2.1 (mkEs c0 A).length (mkEnt c x, r) (mid_eq _ _ _)
        rw [mkEs_len, hk] at this
        exact this
      have e2 : mkEnt c x = { key := mkT c, st := (c : Int) + 1, hs := mkHL (c + 1 + 1) x.hs.length, bl := mkBL d x.bl.length, t := (m : Int), g := (m : Int) + 1, l := (m : Int) + 1 + 1, s := (m : Int) + 1 + 1 + 1, e := (m : Int) + 1 + 1 + 1 + 1, b1 := bq ((m : Int) + 1 + 1 + 1 + 1 + 1), b2 := bq ((m : Int) + 1 + 1 + 1 + 1 + 1 + 1), ts := mkTL (m + 7) x.ts.length, pins := (p : Int) } := by
        have ed := hd.out
        have em := hm.out
        have ep := hp.out
        unfold mkEnt; rw [ed, em, ep]
      rw [e2] at hX
      have HC : Hid (∀ X, Below w.heap.size w X → X.cell? ⟨G, k * 13, none⟩ = some (.string (mkT c)) ∧ X.cell? ⟨G, k * 13 + 1, none⟩ = some (.int .i64 ((c : Int) + 1)) ∧ X.cell? ⟨G, k * 13 + 2, none⟩ = some (.slice r.ha x.hs.length r.hc) ∧ X.cell? ⟨G, k * 13 + 3, none⟩ = some (.slice r.ba x.bl.length r.bc) ∧ X.cell? ⟨G, k * 13 + 4, none⟩ = some (.int .i64 (m : Int)) ∧ X.cell? ⟨G, k * 13 + 5, none⟩ = some (.int .i64 ((m : Int) + 1)) ∧ X.cell? ⟨G, k * 13 + 6, none⟩ = some (.int .i64 ((m : Int) + 1 + 1)) ∧ X.cell? ⟨G, k * 13 + 7, none⟩ = some (.int .i64 ((m : Int) + 1 + 1 + 1)) ∧ X.cell? ⟨G, k * 13 + 8, none⟩ = some (.int .i64 ((m : Int) + 1 + 1 + 1 + 1)) ∧ X.cell? ⟨G, k * 13 + 9, none⟩ = some (.bool (bq ((m : Int) + 1 + 1 + 1 + 1 + 1))) ∧ X.cell? ⟨G, k * 13 + 10, none⟩ = some (.bool (bq ((m : Int) + 1 + 1 + 1 + 1 + 1 + 1))) ∧ X.cell? ⟨G, k * 13 + 11, none⟩ = some (.slice r.ta x.ts.length r.tc) ∧ X.cell? ⟨G, k * 13 + 12, none⟩ = some (.int .i64 (p : Int))) := fun X hXX => by
        have z := (hX X hXX).2
        have z2 := z 2 (by omega)
        have z3 := z 3 (by omega)
        have z11 := z 11 (by omega)
        simp only [entW, mkHL_len, mkBL_len, mkTL_len, List.getElem?_cons_succ, List.getElem?_cons_zero] at z2 z3 z11
        exact ⟨z 0 (by omega), z 1 (by omega), z2, z3, z 4 (by omega), z 5 (by omega), z 6 (by omega), z 7 (by omega), z 8 (by omega), z 9 (by omega), z 10 (by omega), z11, z 12 (by omega)⟩
      obtain ⟨f1, f2, f3⟩ := ft
      simp only at f1 f2 f3
      have hdle : d ≤ c + 2 + 2 * x.hs.length := by have := hd.out; omega
      have hdge : 1 ≤ d := by have := hd.out; omega
      have hmle : m ≤ c + 2 + 2 * x.hs.length + x.bl.length := by have := hm.out; omega
      have hmge : 1 ≤ m := by have := hm.out; omega
      have hple : p ≤ c + 9 + 2 * x.hs.length + x.bl.length + x.ts.length := by have := hp.out; omega
      have CH : Hid (∀ X, Below w.heap.size w X → Calls Tryz.prog 135 #[.slice r.ha x.hs.length r.hc, .int .i64 ((c : Int) + 1 + 1)] X fun e w' => e = .returned (.int .i64 (d : Int)) ∧ Below X.heap.size X w') := fun X hXX => by
        have hh := (hX X hXX).1.h
        simp only [mkHL_len] at hh
        have := heldHeaderS_lvk X (.slice r.ha x.hs.length r.hc) x.hs.length (c + 1 + 1) (by omega) (by omega) f1 hh
        rw [show (((c + 1 + 1 : Nat)) : Int) = (c : Int) + 1 + 1 from by omega, hd.out] at this
        exact this
      have CB : Hid (∀ X, Below w.heap.size w X → Calls Tryz.prog 136 #[.slice r.ba x.bl.length r.bc, .int .i64 (d : Int)] X fun e w' => e = .returned (.int .i64 (m : Int)) ∧ Below X.heap.size X w') := fun X hXX => by
        have hh := (hX X hXX).1.b.markB
        simp only [mkBL_len] at hh
        have := heldByteS_lvk X r.ba x.bl.length r.bc d (by omega) f2 hh
        rw [hm.out] at this
        exact this
      have CS : Hid (∀ X, Below w.heap.size w X → Calls Tryz.prog 86 #[.slice r.ta x.ts.length r.tc, .int .i64 ((m : Int) + 1 + 1 + 1 + 1 + 1 + 1 + 1)] X fun e w' => e = .returned (.int .i64 (p : Int)) ∧ Below X.heap.size X w') := fun X hXX => by
        have hh := (hX X hXX).1.t
        simp only [mkTL_len] at hh
        have := heldStringS_lvk X (.slice r.ta x.ts.length r.tc) x.ts.length (m + 7) (by omega) (by omega) f3 hh
        rw [show (((m + 7 : Nat)) : Int) = (m : Int) + 1 + 1 + 1 + 1 + 1 + 1 + 1 from by omega, hp.out] at this
        exact this
      have FIN : Hid (l = (A ++ [(x, r)]) ++ B ∧ (A ++ [(x, r)]).length = k + 1 ∧ nxts c0 (A ++ [(x, r)]) = p + 1) := by
        have ed := hd.out
        have em := hm.out
        have ep := hp.out
        obtain ⟨ec, ek⟩ := HCA.out
        refine ⟨by rw [HAB.out]; simp, by simp [ek], ?_⟩
        rw [nxts_app, ec]; simp only [nxts, nxt]; omega
      have HT1 : Hid (∀ w, Calls Tryz.prog 101 #[.int .i64 (c : Int)] w fun e w' => e = .returned (.string (mkT c)) ∧ Below w.heap.size w w') := markText_any c (by omega) (by omega)
      have gk : (k : Int) < n := by omega
      have gk0 : (0 : Int) ≤ k := by omega
      have q1 := (HC.out wr HB.out).1
      clear hX e2 hes hAB hc hk hb HAB HST HCA
      generalize mkT c = t1 at *
      have x1 := cell_regrown q1
      clear q1
      have cE : ∀ d os, Calls Tryz.prog 101 #[.int .i64 (c : Int)] (grow (redrawn wr d) os) fun e w'' => e = .returned (.string t1) ∧ ∃ p : Regrown, w'' = grow (redrawn wr p.d) p.os := fun d os => Calls.regrown_of (HT1.out _)
      go_wp2_with fail
      refine wp_region_quiet_below (by kernel_rfl) (by kernel_rfl) ?_
      repeat (go_big_quiet_step ((go_at_call 101; exact cE _ _)))
      refine wpQuiet_nil ?_
      intro w3 hw3
      have HB3 : Hid (Below w.heap.size w w3) := by
        obtain ⟨⟨d, os⟩, rfl⟩ := hw3
        exact HB.out.trans ((below_regrown wr d os).mono HB.out.size)
      clear x1 cE hw3 HB
      have e1 : IntKind.i64.wrap ((c : Int) + 1) = (c : Int) + 1 := by unfold IntKind.wrap; simp [IntKind.signed, IntKind.bits]; omega
      have e2 : IntKind.i64.wrap ((c : Int) + 1 + 1) = (c : Int) + 1 + 1 := by unfold IntKind.wrap; simp [IntKind.signed, IntKind.bits]; omega
      obtain ⟨_, z1, z2, _⟩ := HC.out w3 HB3.out
      go_wp2_with fail
      refine (CH.out _ HB3.out).mono ?_
      rintro e w4 ⟨rfl, hb4⟩
      have HB4 : Hid (Below w.heap.size w w4) := HB3.out.trans (hb4.mono HB3.out.size)
      clear hb4 HB3 z1 z2 e1 e2 CH
      obtain ⟨_, _, _, z3, _⟩ := HC.out w4 HB4.out
      have gd : ¬ (d : Int) < 0 := by omega
      go_wp2_with fail
      refine (CB.out _ HB4.out).mono ?_
      rintro e w5 ⟨rfl, hb5⟩
      have HB5 : Hid (Below w.heap.size w w5) := HB4.out.trans (hb5.mono HB4.out.size)
      clear hb5 HB4 z3 CB gd
      obtain ⟨_, _, _, _, y4, y5, y6, y7, y8, y9, y10, y11, _⟩ := HC.out w5 HB5.out
      have gm : ¬ (m : Int) < 0 := by omega
      unfold bq at y9 y10
      obtain ⟨b5, hb5⟩ : ∃ b, (((m : Int) + 1 + 1 + 1 + 1 + 1) % 3 == 0) = b := ⟨_, rfl⟩
      obtain ⟨b6, hb6⟩ : ∃ b, (((m : Int) + 1 + 1 + 1 + 1 + 1 + 1) % 3 == 0) = b := ⟨_, rfl⟩
      rw [hb5] at y9
      rw [hb6] at y10
      have s1 : IntKind.i64.wrap ((m : Int) + 1) = (m : Int) + 1 := by unfold IntKind.wrap; simp [IntKind.signed, IntKind.bits]; omega
      have s2 : IntKind.i64.wrap ((m : Int) + 1 + 1) = (m : Int) + 1 + 1 := by unfold IntKind.wrap; simp [IntKind.signed, IntKind.bits]; omega
      have s3 : IntKind.i64.wrap ((m : Int) + 1 + 1 + 1) = (m : Int) + 1 + 1 + 1 := by unfold IntKind.wrap; simp [IntKind.signed, IntKind.bits]; omega
      have s4 : IntKind.i64.wrap ((m : Int) + 1 + 1 + 1 + 1) = (m : Int) + 1 + 1 + 1 + 1 := by unfold IntKind.wrap; simp [IntKind.signed, IntKind.bits]; omega
      have s5 : IntKind.i64.wrap ((m : Int) + 1 + 1 + 1 + 1 + 1) = (m : Int) + 1 + 1 + 1 + 1 + 1 := by unfold IntKind.wrap; simp [IntKind.signed, IntKind.bits]; omega
      have s6 : IntKind.i64.wrap ((m : Int) + 1 + 1 + 1 + 1 + 1 + 1) = (m : Int) + 1 + 1 + 1 + 1 + 1 + 1 := by unfold IntKind.wrap; simp [IntKind.signed, IntKind.bits]; omega
      have s7 : IntKind.i64.wrap ((m : Int) + 1 + 1 + 1 + 1 + 1 + 1 + 1) = (m : Int) + 1 + 1 + 1 + 1 + 1 + 1 + 1 := by unfold IntKind.wrap; simp [IntKind.signed, IntKind.bits]; omega
      go_wp2_with fail
      refine (CS.out _ HB5.out).mono ?_
      rintro e w6 ⟨rfl, hb6'⟩
      have HB6 : Hid (Below w.heap.size w w6) := HB5.out.trans (hb6'.mono HB5.out.size)
      clear hb6' HB5 y4 y5 y6 y7 y8 y9 y10 y11 s1 s2 s3 s4 s5 s6 s7 gm CS
      obtain ⟨_, _, _, _, _, _, _, _, _, _, _, _, u12⟩ := HC.out w6 HB6.out
      have gp : ¬ (p : Int) < 0 := by omega
      have t1 : IntKind.i64.wrap ((p : Int) + 1) = (p : Int) + 1 := by unfold IntKind.wrap; simp [IntKind.signed, IntKind.bits]; omega
      clear HC
      go_wp2_with fail
      go_roundw
      case rel => exact ⟨A ++ [(x, r)], B, FIN.out.1, by rw [FIN.out.2.1]; go_num, by rw [FIN.out.2.2]; go_num, HB6.out⟩
      case measure => simp [intOf]; omega
    | nil =>
      simp only [List.length_nil] at hlen
      have e : k = n := by omega
      clear hlen
      subst e
      simp only [List.append_nil] at hAB
      subst hAB
      have HE : Hid (c = nxts c0 l) := hc.symm
      clear hc HCA HST hk hcle hcge hb
      go_wp2_with fail
      go_ret
      exact ⟨congrArg (fun z : Nat => Ending.returned (.int .i64 (z : Int))) HE.out, HB.out⟩
end Go.Proofs.YtaphofdcoddopaaGreatDoor
/-
  A store of one's own: marked, held, compared.
-/
namespace Go.Proofs.YtaphofdcoddopaaGreatDoor
open Go.ChangeShapes Go.WideShapes Go.ChangeAt Go.RowKit Go.Sort
set_option maxHeartbeats 1000000 in
theorem markES_nil (w : World) (a : Option Addr) (c k : Nat) :
    Calls Tryz.prog 56 #[.slice a 0 c, .int .i64 (k : Int)] w fun e w' => e = .returned (.int .i64 (k : Int)) ∧ Below w.heap.size w w' := by
  go_enter Tryz.func56, Tryz.ntmps56
  go_wp2_with fail
  go_loop [1, 5] (fun x i => x = .int .i64 (k : Int) ∧ i = .int .i64 0) (fun _ _ => 0)
  case atStart => exact ⟨rfl, rfl⟩
  case round =>
    obtain ⟨rfl, rfl⟩ := hrel
    go_wp2_with fail
    go_ret
    exact ⟨rfl, Below.refl _ _⟩
set_option maxHeartbeats 1000000 in
theorem heldES_nil (w : World) (a : Option Addr) (c k : Nat) :
    Calls Tryz.prog 102 #[.slice a 0 c, .int .i64 (k : Int)] w fun e w' => e = .returned (.int .i64 (k : Int)) ∧ Below w.heap.size w w' := by
  go_enter Tryz.func102, Tryz.ntmps102
  go_wp2_with fail
  go_loop [1, 5] (fun x i => x = .int .i64 (k : Int) ∧ i = .int .i64 0) (fun _ _ => 0)
  case atStart => exact ⟨rfl, rfl⟩
  case round =>
    obtain ⟨rfl, rfl⟩ := hrel
    go_wp2_with fail
    go_ret
    exact ⟨rfl, Below.refl _ _⟩
theorem fp_mkEs (v : Value) (k : Nat) (l : List (Ent × EntR)) : fp v (mkEs k l) = fp v l := by unfold fp; rw [foot_mkEs]
/-- The lists of a store fit what the laws take. -/
structure FitL (l : List (Ent × EntR)) : Prop where
  n : l.length ≤ 1048576
  f : ∀ q ∈ l, EntFit q.1
theorem markES_v (w : World) (base : Nat) (v : Value) (c0 : Nat) (l : List (Ent × EntR)) (hf : FitL l) (h : EntsLV w base v l) (hbs : base ≤ w.heap.size) (hc0 : 1 ≤ c0) (hc1 : c0 ≤ 10000000000000) :
    Calls Tryz.prog 56 #[v, .int .i64 (c0 : Int)] w fun e w' => e = .returned (.int .i64 (nxts c0 l : Int)) ∧ EntsLV w' base v (mkEs c0 l) ∧ Out (fp v l) w w' ∧ Below base w w' := by
  rcases h.form with ⟨rfl, rfl⟩ | ⟨g, c, rfl, _⟩
  · exact (markES_nil w none 0 c0).mono fun _ _ ⟨h1, h2⟩ => ⟨h1, h.below h2, .below h2, h2.mono hbs⟩
  · exact markES_o w base g c c0 l hf.n hf.f h hbs hc0 hc1
theorem heldES_v (w : World) (base : Nat) (v : Value) (c0 : Nat) (l : List (Ent × EntR)) (hf : FitL l) (h : EntsLV w base v (mkEs c0 l)) (hc0 : 1 ≤ c0) (hc1 : c0 ≤ 10000000000000) :
    Calls Tryz.prog 102 #[v, .int .i64 (c0 : Int)] w fun e w' => e = .returned (.int .i64 (nxts c0 l : Int)) ∧ Below w.heap.size w w' := by
  rcases h.form with ⟨rfl, h1⟩ | ⟨g, c, rfl, _⟩
  · have e : l = [] := by have := congrArg List.length h1; rw [mkEs_len] at this; exact List.eq_nil_of_length_eq_zero this
    subst e
    exact heldES_nil w none 0 c0
  · rw [mkEs_len] at h ⊢
    exact heldES_o w base g c c0 l hf.n hf.f h hc0 hc1
theorem FitL.le {l : List (Ent × EntR)} (h : FitL l) {c : Nat} : nxts c l ≤ c + l.length * 4194314 := nxts_le c l h.f
def nSto (l1 l2 : List (Ent × EntR)) : Nat := nxts (nxts 1 l1) l2
theorem nSto_le {l1 l2 : List (Ent × EntR)} (h1 : FitL l1) (h2 : FitL l2) : nSto l1 l2 ≤ 10000000000000 := by
  have a := h1.le (c := 1)
  have b := h2.le (c := nxts 1 l1)
  have := h1.n
  have := h2.n
  unfold nSto
  omega
theorem nSto_ge (l1 l2 : List (Ent × EntR)) : 1 ≤ nSto l1 l2 := by
  have a := nxts_ge 1 l1
  have b := nxts_ge (nxts 1 l1) l2
  unfold nSto
  omega
/-- A store all over marked. -/
def StoHeld (w : World) (base : Nat) (v1 v2 : Value) (l1 l2 : List (Ent × EntR)) : Prop := StoLV w base v1 v2 (mkEs 1 l1) (mkEs (nxts 1 l1) l2)
theorem StoHeld.below {w w' : World} {base : Nat} {v1 v2 : Value} {l1 l2 : List (Ent × EntR)} (h : StoHeld w base v1 v2 l1 l2) (hb : Below w.heap.size w w') : StoHeld w' base v1 v2 l1 l2 := StoLV.below h hb
set_option maxHeartbeats 4000000 in
theorem markSto_o (w : World) (base : Nat) (bu gu : Int) (a1 a2 : Option Addr) (k1 k2 n1 n2 : Nat) (l1 l2 : List (Ent × EntR)) (f1 : FitL l1) (f2 : FitL l2) (hbs : base ≤ w.heap.size) (h : StoLV w base (.slice a1 n1 k1) (.slice a2 n2 k2) l1 l2) :
    Calls Tryz.prog 17 #[.agg #[.int .i64 bu, .int .i64 gu, .slice a1 n1 k1, .slice a2 n2 k2], .int .i64 1] w fun e w' => e = .returned (.int .i64 (nSto l1 l2 : Int)) ∧ StoHeld w' base (.slice a1 n1 k1) (.slice a2 n2 k2) l1 l2 ∧ Out (fp (.slice a1 n1 k1) l1 ++ fp (.slice a2 n2 k2) l2) w w' ∧ Below base w w' := by
  obtain ⟨W, hW⟩ : ∃ W, W = w.alloc (.cells #[.int .i64 bu, .int .i64 gu, .slice a1 n1 k1, .slice a2 n2 k2] 28) := ⟨_, rfl⟩
  have HW : Hid (W = w.alloc (.cells #[.int .i64 bu, .int .i64 gu, .slice a1 n1 k1, .slice a2 n2 k2] 28)) := hW
  have bW : Below w.heap.size w W := by rw [hW]; exact (Below.refl _ _).alloc (Nat.le_refl _) _
  have sW : S4 W w.heap.size (.int .i64 bu) (.int .i64 gu) (.slice a1 n1 k1) (.slice a2 n2 k2) := by rw [hW]; exact S4.new w _ _ _ _ _
  have hH := h.below bW
  have C1 : Hid (Calls Tryz.prog 56 #[.slice a1 n1 k1, .int .i64 1] W fun e w' => e = .returned (.int .i64 (nxts 1 l1 : Int)) ∧ w'.cell? ⟨w.heap.size, 3, none⟩ = some (.slice a2 n2 k2) ∧ StoLV w' base (.slice a1 n1 k1) (.slice a2 n2 k2) (mkEs 1 l1) l2 ∧ Out (fp (.slice a1 n1 k1) l1 ++ fp (.slice a2 n2 k2) l2) w w' ∧ Below base w w') := by
    have := markES_v W base (.slice a1 n1 k1) 1 l1 f1 hH.t (by have := bW.size; omega) (by omega) (by omega)
    refine this.mono ?_
    rintro e w' ⟨h1, h2, h3, h4⟩
    refine ⟨h1, ?_, ⟨h2, hH.k.out h3 (fun b hb e => hH.nd b e hb), by rw [fp_mkEs]; exact hH.nd⟩, (Out.below bW).trans (h3.mono fun b hb => List.mem_append_left _ hb), (bW.mono hbs).trans h4⟩
    rw [h3.cell w.heap.size 3 sW.lt (fun e => by have := h.t.lt e; omega)]
    exact sW.c3
  have HC2 : Hid (∀ X, StoLV X base (.slice a1 n1 k1) (.slice a2 n2 k2) (mkEs 1 l1) l2 → Out (fp (.slice a1 n1 k1) l1 ++ fp (.slice a2 n2 k2) l2) w X → Below base w X → Calls Tryz.prog 56 #[.slice a2 n2 k2, .int .i64 (nxts 1 l1 : Int)] X fun e w' => e = .returned (.int .i64 (nSto l1 l2 : Int)) ∧ StoHeld w' base (.slice a1 n1 k1) (.slice a2 n2 k2) l1 l2 ∧ Out (fp (.slice a1 n1 k1) l1 ++ fp (.slice a2 n2 k2) l2) w w' ∧ Below base w w') := fun X hX ho hb => by
    have q1 := f1.le (c := 1)
    have := f1.n
    have := nxts_ge 1 l1
    have := markES_v X base (.slice a2 n2 k2) (nxts 1 l1) l2 f2 hX.k (by have := hb.size; omega) (by omega) (by omega)
    refine this.mono ?_
    rintro e w' ⟨h1, h2, h3, h4⟩
    refine ⟨h1, ⟨hX.t.out h3 (fun b hb e => hX.nd b hb e), h2, fun b h5 h6 => ?_⟩, ho.trans (h3.mono fun b hb => List.mem_append_right _ hb), hb.trans h4⟩
    rw [fp_mkEs] at h6
    exact hX.nd b h5 h6
  clear hW bW sW hH h f1 f2 hbs
  generalize (nxts 1 l1 : Int) = q1 at *
  generalize (nSto l1 l2 : Int) = q2 at *
  go_enter Tryz.func17, Tryz.ntmps17
  go_wp2_with fail
  rw [← HW.out]
  refine C1.out.mono ?_
  rintro e w1 ⟨rfl, x3, h2, h3, h4⟩
  have CC := HC2.out w1 h2 h3 h4
  clear C1 HC2 HW h2 h3 h4
  go_wp2_with fail
  refine CC.mono ?_
  rintro e w2 ⟨rfl, h5⟩
  have H5 : Hid _ := h5
  clear CC x3 h5
  go_wp2_with fail
  go_ret
  exact ⟨rfl, H5.out⟩
set_option maxHeartbeats 4000000 in
theorem heldSto_o (w : World) (base : Nat) (bu gu : Int) (a1 a2 : Option Addr) (k1 k2 n1 n2 : Nat) (l1 l2 : List (Ent × EntR)) (f1 : FitL l1) (f2 : FitL l2) (h : StoHeld w base (.slice a1 n1 k1) (.slice a2 n2 k2) l1 l2) :
    Calls Tryz.prog 57 #[.agg #[.int .i64 bu, .int .i64 gu, .slice a1 n1 k1, .slice a2 n2 k2], .int .i64 1] w fun e w' => e = .returned (.int .i64 (nSto l1 l2 : Int)) ∧ Below w.heap.size w w' := by
  obtain ⟨W, hW⟩ : ∃ W, W = w.alloc (.cells #[.int .i64 bu, .int .i64 gu, .slice a1 n1 k1, .slice a2 n2 k2] 28) := ⟨_, rfl⟩
  have HW : Hid (W = w.alloc (.cells #[.int .i64 bu, .int .i64 gu, .slice a1 n1 k1, .slice a2 n2 k2] 28)) := hW
  have bW : Below w.heap.size w W := by rw [hW]; exact (Below.refl _ _).alloc (Nat.le_refl _) _
  have sW : S4 W w.heap.size (.int .i64 bu) (.int .i64 gu) (.slice a1 n1 k1) (.slice a2 n2 k2) := by rw [hW]; exact S4.new w _ _ _ _ _
  have hH := h.below bW
  have C1 : Hid (Calls Tryz.prog 102 #[.slice a1 n1 k1, .int .i64 1] W fun e w' => e = .returned (.int .i64 (nxts 1 l1 : Int)) ∧ w'.cell? ⟨w.heap.size, 3, none⟩ = some (.slice a2 n2 k2) ∧ Below w.heap.size w w') := by
    refine (heldES_v W base (.slice a1 n1 k1) 1 l1 f1 hH.t (by omega) (by omega)).mono ?_
    rintro e w' ⟨h1, h2⟩
    exact ⟨h1, (sW.keep h2).c3, bW.trans (h2.mono bW.size)⟩
  have HC2 : Hid (∀ X, Below w.heap.size w X → Calls Tryz.prog 102 #[.slice a2 n2 k2, .int .i64 (nxts 1 l1 : Int)] X fun e w' => e = .returned (.int .i64 (nSto l1 l2 : Int)) ∧ Below w.heap.size w w') := fun X hb => by
    have q1 := f1.le (c := 1)
    have := f1.n
    have := nxts_ge 1 l1
    refine (heldES_v X base (.slice a2 n2 k2) (nxts 1 l1) l2 f2 (h.below hb).k (by omega) (by omega)).mono ?_
    rintro e w' ⟨h1, h2⟩
    exact ⟨h1, hb.trans (h2.mono hb.size)⟩
  have g1 : ¬ (nxts 1 l1 : Int) < 0 := by omega
  have g2 : ¬ (nSto l1 l2 : Int) < 0 := by omega
  clear hW bW sW hH h f1 f2
  generalize (nxts 1 l1 : Int) = q1 at *
  generalize (nSto l1 l2 : Int) = q2 at *
  go_enter Tryz.func57, Tryz.ntmps57
  go_wp2_with fail
  rw [← HW.out]
  refine C1.out.mono ?_
  rintro e w1 ⟨rfl, x3, h4⟩
  have CC := HC2.out w1 h4
  clear C1 HC2 HW h4
  go_wp2_with fail
  refine CC.mono ?_
  rintro e w2 ⟨rfl, h5⟩
  have H5 : Hid _ := h5
  clear CC x3 h5
  go_wp2_with fail
  go_ret
  exact ⟨rfl, H5.out⟩
theorem slice_len {w : World} {base n k : Nat} {a : Option Addr} {l : List (Ent × EntR)} (h : EntsLV w base (.slice a n k) l) : n = l.length ∧ EntsIn w a l := by
  obtain ⟨a', c, e, _, hi⟩ := h.in
  simp only [Value.slice.injEq] at e
  obtain ⟨rfl, rfl, rfl⟩ := e
  exact ⟨rfl, hi⟩
theorem eqSto_lv (w : World) (bu gu : Int) (a1 a2 b1 b2 : Option Addr) (k1 k2 n1 n2 j1 j2 m1 m2 ba bb : Nat) (l1 l2 p1 p2 : List (Ent × EntR)) (f1 : FitL l1) (f2 : FitL l2) (h : StoLV w ba (.slice a1 n1 k1) (.slice a2 n2 k2) l1 l2) (k : StoLV w bb (.slice b1 m1 j1) (.slice b2 m2 j2) p1 p2) (e1 : l1.map Prod.fst = p1.map Prod.fst) (e2 : l2.map Prod.fst = p2.map Prod.fst) :
    Calls Tryz.prog 16 #[.agg #[.int .i64 bu, .int .i64 gu, .slice a1 n1 k1, .slice a2 n2 k2], .agg #[.int .i64 bu, .int .i64 gu, .slice b1 m1 j1, .slice b2 m2 j2]] w fun r w' => r = .returned (.bool true) ∧ Below w.heap.size w w' := by
  obtain ⟨rfl, i1⟩ := slice_len h.t
  obtain ⟨rfl, i2⟩ := slice_len h.k
  obtain ⟨r1, i3⟩ := slice_len k.t
  obtain ⟨r2, i4⟩ := slice_len k.k
  have q1 : m1 = l1.length := by rw [r1]; have := congrArg List.length e1; simpa using this.symm
  have q2 : m2 = l2.length := by rw [r2]; have := congrArg List.length e2; simpa using this.symm
  rw [q1, q2]
  exact eqStore_same w bu gu a1 b1 a2 b2 k1 j1 k2 j2 l1 p1 l2 p2 f1.n f2.n f1.f f2.f e1 e2 i1 i3 i2 i4
end Go.Proofs.YtaphofdcoddopaaGreatDoor
