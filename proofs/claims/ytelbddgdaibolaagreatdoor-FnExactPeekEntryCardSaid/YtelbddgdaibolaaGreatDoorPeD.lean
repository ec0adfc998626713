/-
  Texts of one claim, one behind the other.
-/
import Derived.ChangeArms
import Derived.Deep.RegionHeld3
import Derived.Test.YtelbddgdaibolaaGreatDoorPeC
/-
  Rows of texts as a value: compared, marked, held.
-/
namespace Go.Proofs.YtelbddgdaibolaaGreatDoor
open Go.ChangeShapes Go.WideShapes Go.ChangeAt Go.RowKit Go.Sort
def mkTL (k n : Nat) : List ByteArray := (List.range n).map fun j => mkT (k + j)
theorem mkTL_len (k n : Nat) : (mkTL k n).length = n := by simp [mkTL]
theorem mkTL_get {k n i : Nat} (h : i < n) : (mkTL k n)[i]? = some (mkT (k + i)) := by simp [mkTL, h]
theorem tput {w : World} {g off i : Nat} {L : List ByteArray} {r : ByteArray} (h : TAt w g off L) (hr : L[i]? = some r) (n : ByteArray) : TAt (w.setCell ⟨g, off + i, none⟩ (.string n)) g off (L.set i n) := by
  intro j q hq
  by_cases e : j = i
  · subst e
    have hl := (List.getElem?_eq_some_iff.1 hr).1
    rw [List.getElem?_set_self hl] at hq
    obtain rfl := Option.some.inj hq
    exact hcell_set_same (h j r hr)
  · rw [List.getElem?_set_ne (fun k => e k.symm)] at hq
    rw [hcell_set_off (by omega)]
    exact h j q hq
/-- The state of the marking loop: j texts are marked. -/
structure TMarked (w : World) (g off : Nat) (k n j : Nat) (L : List ByteArray) (W : World) : Prop where
  len : L.length = n
  done : ∀ i, i < j → L[i]? = some (mkT (k + i))
  items : TAt W g off L
  thaw : ∀ o, W.frozen? ⟨g, o, none⟩ = false
  apart : Apart g w W
  low : Below g w W
  lt : g < W.heap.size
theorem TMarked.below {w : World} {g off k n j : Nat} {L : List ByteArray} {W W' : World} (h : TMarked w g off k n j L W) (hb : Below W.heap.size W W') : TMarked w g off k n j L W' :=
  ⟨h.len, h.done, h.items.keep hb, fun o => by rw [hb.frozen (p := ⟨g, o, none⟩) h.lt, h.thaw], h.apart.trans (.below hb), h.low.trans (hb.mono (Nat.le_of_lt h.lt)), Nat.lt_of_lt_of_le h.lt hb.size⟩
theorem TMarked.set {w : World} {g off k n j : Nat} {L : List ByteArray} {W : World} {r : ByteArray} (h : TMarked w g off k n j L W) (hr : L[j]? = some r) : TMarked w g off k n (j + 1) (L.set j (mkT (k + j))) (W.setCell ⟨g, off + j, none⟩ (.string (mkT (k + j)))) := by
  refine ⟨by rw [List.length_set]; exact h.len, fun i hi => ?_, tput h.items hr _, fun o => by rw [World.frozen?_setCell, h.thaw], h.apart.trans (.set _ _ _ _), h.low.setCell (Nat.le_refl _) _, by simpa using h.lt⟩
  by_cases e : i = j
  · subst e; exact List.getElem?_set_self (List.getElem?_eq_some_iff.1 hr).1
  · rw [List.getElem?_set_ne (fun k => e k.symm)]; exact h.done i (by omega)
set_option maxRecDepth 100000 in
set_option maxHeartbeats 4000000 in
theorem markStringS_any (w : World) (g off cap n k : Nat) (l : List ByteArray) (hn : l.length = n) (hn2 : n ≤ 1048576) (hk0 : 1 ≤ k) (hk1 : k ≤ 100000000000000) (hi : TAt w g off l) (hf : ∀ o, w.frozen? ⟨g, o, none⟩ = false) (hg : g < w.heap.size) :
    Calls Tryz.prog 109 #[.slice (some ⟨g, off, none⟩) n cap, .int .i64 (k : Int)] w fun e w' => e = .returned (.int .i64 ((k + n : Nat) : Int)) ∧ TAt w' g off (mkTL k n) ∧ Apart g w w' ∧ Below g w w' ∧ ∀ o, w'.frozen? ⟨g, o, none⟩ = false := by
  have HST : Hid (TMarked w g off k n 0 l w) := ⟨hn, fun i h => by omega, hi, hf, .refl _ _, Below.refl _ _, hg⟩
  clear hi hf hg hn
  go_enter Tryz.func109, Tryz.ntmps109
  go_wp2_with fail
  go_loopw [1, 5] (fun x i wr => ∃ (j : Nat) (L : List ByteArray), j ≤ n ∧ i = .int .i64 (j : Int) ∧ x = .int .i64 ((k + j : Nat) : Int) ∧ TMarked w g off k n j L wr) (fun _ i _ => n - (intOf i).toNat)
  case atStart => exact ⟨0, l, Nat.zero_le _, rfl, rfl, HST.out⟩
  case round =>
    obtain ⟨j, L, hj, rfl, rfl, hm⟩ := hrel
    have HM : Hid (TMarked w g off k n j L wr) := hm
    clear hm HST
    by_cases hlt : j < n
    · obtain ⟨r, hr⟩ : ∃ r, L[j]? = some r := ⟨L[j]'(by have := HM.out.len; omega), List.getElem?_eq_getElem _⟩
      have HR : Hid (L[j]? = some r) := hr
      clear hr
      have g0 : (0 : Int) ≤ j := by omega
      have g1 : (j : Int) < n := by omega
      have HT1 : Hid (∀ w, Calls Tryz.prog 144 #[.int .i64 ((k + j : Nat) : Int)] w fun e w' => e = .returned (.string (mkT (k + j))) ∧ Below w.heap.size w w') := markText_any (k + j) (by omega) (by omega)
      go_wp2_with fail
      refine (HT1.out _).mono ?_
      rintro e w1 ⟨rfl, hb1⟩
      have HM1 : Hid (TMarked w g off k n j L w1) := HM.out.below hb1
      clear hb1 HM
      have p1 := HM1.out.items j r HR.out
      have f1 := HM1.out.thaw (off + j)
      have HM7 : Hid (TMarked w g off k n (j + 1) (L.set j (mkT (k + j))) (w1.setCell ⟨g, off + j, none⟩ (.string (mkT (k + j))))) := HM1.out.set HR.out
      clear HM1
      go_wp2_with fail
      go_roundw
      case rel => exact ⟨j + 1, _, by omega, by go_num, by congr 1, HM7.out⟩
      case measure => simp [intOf]; omega
    · obtain rfl : j = n := by omega
      have HX : Hid (TAt wr g off (mkTL k j)) := by
        have e : L = mkTL k j := by
          apply List.ext_getElem?
          intro i
          by_cases hi : i < j
          · rw [HM.out.done i hi, mkTL_get hi]
          · rw [List.getElem?_eq_none (by have := HM.out.len; omega), List.getElem?_eq_none (by rw [mkTL_len]; omega)]
        show TAt _ _ _ _
        rw [← e]
        exact HM.out.items
      go_wp2_with fail
      go_ret
      exact ⟨rfl, HX.out, HM.out.apart, HM.out.low, HM.out.thaw⟩
set_option maxRecDepth 100000 in
set_option maxHeartbeats 4000000 in
theorem heldStringS_any (w : World) (g off cap n k : Nat) (hn2 : n ≤ 1048576) (hk0 : 1 ≤ k) (hk1 : k ≤ 100000000000000) (hi : TAt w g off (mkTL k n)) :
    Calls Tryz.prog 110 #[.slice (some ⟨g, off, none⟩) n cap, .int .i64 (k : Int)] w fun e w' => e = .returned (.int .i64 ((k + n : Nat) : Int)) ∧ Below w.heap.size w w' := by
  have HI : Hid (TAt w g off (mkTL k n)) := hi
  clear hi
  go_enter Tryz.func110, Tryz.ntmps110
  go_wp2_with fail
  go_loopw [1, 5] (fun x i wr => ∃ (j : Nat), j ≤ n ∧ i = .int .i64 (j : Int) ∧ x = .int .i64 ((k + j : Nat) : Int) ∧ Below w.heap.size w wr) (fun _ i _ => n - (intOf i).toNat)
  case atStart => exact ⟨0, Nat.zero_le _, rfl, rfl, Below.refl _ _⟩
  case round =>
    obtain ⟨j, hj, rfl, rfl, hb⟩ := hrel
    have KB : Hid (Below w.heap.size w wr) := hb
    clear hb
    by_cases hlt : j < n
    · have q1 := (HI.out.keep KB.out) j _ (mkTL_get hlt)
      have g0 : (0 : Int) ≤ j := by omega
      have g1 : (j : Int) < n := by omega
      have HT1 : Hid (∀ w, Calls Tryz.prog 144 #[.int .i64 ((k : Int) + j)] w fun e w' => e = .returned (.string (mkT (k + j))) ∧ Below w.heap.size w w') := by
        have := markText_any (k + j) (by omega) (by omega)
        rw [show ((k + j : Nat) : Int) = (k : Int) + j by omega] at this
        exact this
      generalize mkT (k + j) = t1 at *
      have x1 := cell_regrown q1
      clear q1
      have cE : ∀ d os, Calls Tryz.prog 144 #[.int .i64 ((k : Int) + j)] (grow (redrawn wr d) os) fun e w'' => e = .returned (.string t1) ∧ ∃ p : Regrown, w'' = grow (redrawn wr p.d) p.os := fun d os => Calls.regrown_of (HT1.out _)
      go_wp2_with fail
      refine wp_region_quiet_below (by kernel_rfl) (by kernel_rfl) ?_
      repeat (go_big_quiet_step ((go_at_call 144; exact cE _ _)))
      refine wpQuiet_nil ?_
      intro w3 hw3
      have KB3 : Hid (Below w.heap.size w w3) := by
        obtain ⟨⟨d, os⟩, rfl⟩ := hw3
        exact KB.out.trans ((below_regrown wr d os).mono KB.out.size)
      clear x1 cE hw3 KB
      go_wp2_with fail
      go_roundw
      case rel => exact ⟨j + 1, by omega, by go_num, by congr 1, KB3.out⟩
      case measure => simp [intOf]; omega
    · obtain rfl : j = n := by omega
      go_wp2_with fail
      go_ret
      exact ⟨rfl, KB.out⟩
def TLV (w : World) (v : Value) (l : List ByteArray) : Prop :=
  (v = .slice none 0 0 ∧ l = []) ∨ ∃ g cap, v = .slice (some ⟨g, 0, none⟩) l.length cap ∧ g < w.heap.size ∧ TAt w g 0 l ∧ ∀ o, w.frozen? ⟨g, o, none⟩ = false
theorem OwnS.lv {w : World} {base : Nat} {v : Value} {l : List ByteArray} (h : OwnS w base v l) : TLV w v l ∧ ∀ b, v.ownBlock = some b → base ≤ b := by
  have h0 := h
  obtain ⟨_, h1 | ⟨g, c, cur, rfl, hg, hh, _⟩⟩ := h
  · have e : l = [] := List.eq_nil_of_length_eq_zero h1.2
    exact ⟨.inl ⟨h1.1, e⟩, fun b hb => by rw [h1.1] at hb; cases hb⟩
  · refine ⟨.inr ⟨g, c, rfl, (Array.getElem?_eq_some_iff.1 hh).1, fun i x hx => ?_, fun o => ?_⟩, fun b hb => ?_⟩
    · have hk := (List.getElem?_eq_some_iff.1 hx).1
      have := World.ownsRow.cellAt h0 i (by omega)
      rw [Nat.zero_add, this]
      simp [textsW, hx]
    · simp [World.frozen?, hh]
    · simp only [Value.ownBlock, Option.some.injEq] at hb; omega
theorem TLV.below {w w' : World} {v : Value} {l : List ByteArray} (h : TLV w v l) (hb : Below w.heap.size w w') : TLV w' v l := by
  rcases h with h | ⟨g, c, e, hg, hi, hf⟩
  · exact .inl h
  · exact .inr ⟨g, c, e, Nat.lt_of_lt_of_le hg hb.size, hi.keep hb, fun o => by rw [hb.frozen (p := ⟨g, o, none⟩) hg, hf]⟩
theorem TLV.av {w w' : World} {v v1 : Value} {l : List ByteArray} (h : TLV w v1 l) (k : HAV v w w') (hne : ∀ b, v1.ownBlock = some b → v.ownBlock ≠ some b) : TLV w' v1 l := by
  rcases h with h | ⟨g, c, rfl, hg, hi, hf⟩
  · exact .inl h
  · have hn := hne g rfl
    exact .inr ⟨g, c, rfl, Nat.lt_of_lt_of_le hg k.size, fun i r hr => by rw [k.cell g _ hg hn]; exact hi i r hr, fun o => by rw [k.frozen g o hg hn, hf]⟩
theorem TLV.tin {w : World} {v : Value} {l : List ByteArray} (h : TLV w v l) : ∃ a c, v = .slice a l.length c ∧ TIn w a l := by
  rcases h with ⟨rfl, rfl⟩ | ⟨g, c, rfl, _, hi, _⟩
  · exact ⟨none, 0, rfl, .inl rfl⟩
  · exact ⟨_, c, rfl, .inr ⟨g, 0, rfl, hi⟩⟩
theorem eqStringS_lv (w : World) (v1 v2 : Value) (l : List ByteArray) (hl : l.length ≤ 1048576) (h1 : TLV w v1 l) (h2 : TLV w v2 l) :
    Calls Tryz.prog 103 #[v1, v2] w fun e w' => e = .returned (.bool true) ∧ Below w.heap.size w w' := by
  obtain ⟨a1, c1, rfl, t1⟩ := h1.tin
  obtain ⟨a2, c2, rfl, t2⟩ := h2.tin
  exact eqStringS_same w a1 a2 c1 c2 l hl t1 t2
set_option maxHeartbeats 1000000 in
theorem markStringS_nil (w : World) (a : Option Addr) (c k : Nat) :
    Calls Tryz.prog 109 #[.slice a 0 c, .int .i64 (k : Int)] w fun e w' => e = .returned (.int .i64 (k : Int)) ∧ Below w.heap.size w w' := by
  go_enter Tryz.func109, Tryz.ntmps109
  go_wp2_with fail
  go_loop [1, 5] (fun x i => x = .int .i64 (k : Int) ∧ i = .int .i64 0) (fun _ _ => 0)
  case atStart => exact ⟨rfl, rfl⟩
  case round =>
    obtain ⟨rfl, rfl⟩ := hrel
    go_wp2_with fail
    go_ret
    exact ⟨rfl, Below.refl _ _⟩
set_option maxHeartbeats 1000000 in
theorem heldStringS_nil (w : World) (a : Option Addr) (c k : Nat) :
    Calls Tryz.prog 110 #[.slice a 0 c, .int .i64 (k : Int)] w fun e w' => e = .returned (.int .i64 (k : Int)) ∧ Below w.heap.size w w' := by
  go_enter Tryz.func110, Tryz.ntmps110
  go_wp2_with fail
  go_loop [1, 5] (fun x i => x = .int .i64 (k : Int) ∧ i = .int .i64 0) (fun _ _ => 0)
  case atStart => exact ⟨rfl, rfl⟩
  case round =>
    obtain ⟨rfl, rfl⟩ := hrel
    go_wp2_with fail
    go_ret
    exact ⟨rfl, Below.refl _ _⟩
theorem markStringS_lv (w : World) (v : Value) (l : List ByteArray) (hl : l.length ≤ 1048576) (h : TLV w v l) (base : Nat) (hb : ∀ b, v.ownBlock = some b → base ≤ b) (hbs : base ≤ w.heap.size) :
    Calls Tryz.prog 109 #[v, .int .i64 1] w fun e w' => e = .returned (.int .i64 ((1 + l.length : Nat) : Int)) ∧ TLV w' v (mkTL 1 l.length) ∧ HAV v w w' ∧ Below base w w' := by
  rcases h with ⟨rfl, rfl⟩ | ⟨g, c, rfl, hg, hi, hf⟩
  · exact (markStringS_nil w none 0 1).mono fun _ _ ⟨h1, h2⟩ => ⟨h1, .inl ⟨rfl, rfl⟩, .below h2, h2.mono hbs⟩
  · refine (markStringS_any w g 0 c l.length 1 l rfl hl (by omega) (by omega) hi hf hg).mono ?_
    rintro e w' ⟨h1, h2, h3, h4, h5⟩
    have hne : ∀ b, (Value.slice (some ⟨g, 0, none⟩) l.length c).ownBlock ≠ some b → b ≠ g := fun b hb e => hb (by subst e; rfl)
    refine ⟨h1, ?_, ⟨h3.size, fun b o hb hn => h3.cell b o hb (hne b hn), fun b o hb hn => h3.frozen b o hb (hne b hn)⟩, h4.mono (hb g rfl)⟩
    exact .inr ⟨g, c, by rw [mkTL_len], Nat.lt_of_lt_of_le hg h3.size, h2, h5⟩
theorem heldStringS_lv (w : World) (v : Value) (n : Nat) (hl : n ≤ 1048576) (h : TLV w v (mkTL 1 n)) :
    Calls Tryz.prog 110 #[v, .int .i64 1] w fun e w' => e = .returned (.int .i64 ((1 + n : Nat) : Int)) ∧ Below w.heap.size w w' := by
  rcases h with ⟨rfl, h0⟩ | ⟨g, c, rfl, _, hi, _⟩
  · have e := congrArg List.length h0
    rw [mkTL_len] at e
    simp at e
    subst e
    exact heldStringS_nil w none 0 1
  · rw [mkTL_len]
    exact heldStringS_any w g 0 c n 1 hl (by omega) (by omega) hi
theorem TLV.block_lt {w : World} {v : Value} {l : List ByteArray} (h : TLV w v l) : ∀ b, v.ownBlock = some b → b < w.heap.size := by
  rcases h with ⟨rfl, _⟩ | ⟨g, c, rfl, hg, _⟩
  · intro b hb; cases hb
  · intro b hb; simp only [Value.ownBlock, Option.some.injEq] at hb; omega
/-- What a call hands back: texts in memory of its own. -/
structure TGot (L : List ByteArray) (base : Nat) (a : Option Addr) (n cap : Nat) (w : World) : Prop where
  len : n = L.length
  lv : TLV w (.slice a n cap) L
  ge : ∀ b, (Value.slice a n cap).ownBlock = some b → base ≤ b
def TRes (c : Int) (L : List ByteArray) (base : Nat) (e : Ending) (w : World) : Prop := ∃ v, e = .returned (.agg #[.int .i64 c, v]) ∧ OwnS w base v L
theorem TRes.got {c : Int} {L : List ByteArray} {base : Nat} {e : Ending} {w : World} (h : TRes c L base e w) : ∃ a n cap, e = .returned (.agg #[.int .i64 c, .slice a n cap]) ∧ TGot L base a n cap w := by
  obtain ⟨v, rfl, ho⟩ := h
  obtain ⟨a, c, rfl, _⟩ := ho.lv.1.tin
  exact ⟨a, _, c, rfl, rfl, ho.lv.1, ho.lv.2⟩
structure TMarkedR (w : World) (base : Nat) (a : Option Addr) (n ca : Nat) (w' : World) : Prop where
  lv : TLV w' (.slice a n ca) (mkTL 1 n)
  av : HAV (.slice a n ca) w w'
  low : Below base w w'
/-- Two results in variables, and their lines. -/
structure TKK (w : World) (X1 X2 : Nat) (c : Int) (v1 v2 : Value) (L1 L2 : List ByteArray) (W : World) : Prop where
  b : Below w.heap.size w W
  r1 : HHRoom W X1 c v1
  r2 : HHRoom W X2 c v2
  l1 : TLV W v1 L1
  l2 : TLV W v2 L2
theorem TKK.keep {w : World} {X1 X2 : Nat} {c : Int} {v1 v2 : Value} {L1 L2 : List ByteArray} {W W' : World} (h : TKK w X1 X2 c v1 v2 L1 L2 W) (hb : Below W.heap.size W W') : TKK w X1 X2 c v1 v2 L1 L2 W' :=
  ⟨h.b.trans (hb.mono h.b.size), h.r1.keep hb, h.r2.keep hb, h.l1.below hb, h.l2.below hb⟩
theorem TKK.av {w : World} {X1 X2 : Nat} {c : Int} {v1 v2 u : Value} {L1 L2 : List ByteArray} {W W' : World} (h : TKK w X1 X2 c v1 v2 L1 L2 W) (k : HAV u W W') (hb : Below w.heap.size W W') (h1 : u.ownBlock ≠ some X1) (h2 : u.ownBlock ≠ some X2) (h3 : ∀ b, v1.ownBlock = some b → u.ownBlock ≠ some b) (h4 : ∀ b, v2.ownBlock = some b → u.ownBlock ≠ some b) : TKK w X1 X2 c v1 v2 L1 L2 W' :=
  ⟨h.b.trans hb, h.r1.av k h1, h.r2.av k h2, h.l1.av k h3, h.l2.av k h4⟩
end Go.Proofs.YtelbddgdaibolaaGreatDoor
/-
  Results that hold bytes: owned, compared, marked, held.
-/
namespace Go.Proofs.YtelbddgdaibolaaGreatDoor
open Go.ChangeShapes Go.WideShapes Go.ChangeAt Go.RowKit
structure Two (W : World) (B : Nat) (v0 v1 : Value) : Prop where
  c0 : W.cell? ⟨B, 0, none⟩ = some v0
  c1 : W.cell? ⟨B, 1, none⟩ = some v1
  fr : ∀ o, W.frozen? ⟨B, o, none⟩ = false
  lt : B < W.heap.size
theorem Two.keep {W W' : World} {B : Nat} {v0 v1 : Value} (h : Two W B v0 v1) (hb : Below W.heap.size W W') : Two W' B v0 v1 :=
  ⟨by rw [hb.cell (p := ⟨B, 0, none⟩) h.lt]; exact h.c0, by rw [hb.cell (p := ⟨B, 1, none⟩) h.lt]; exact h.c1, fun o => by rw [hb.frozen (p := ⟨B, o, none⟩) h.lt]; exact h.fr o, Nat.lt_of_lt_of_le h.lt hb.size⟩
theorem Two.new (W : World) (v0 v1 : Value) (t : TypeId) : Two (W.alloc (.cells #[v0, v1] t)) W.heap.size v0 v1 :=
  ⟨by rw [World.cell?_alloc_mark]; rfl, by rw [World.cell?_alloc_mark]; rfl, fun o => by have e := heap_alloc_new W (.cells #[v0, v1] t); unfold World.frozen?; rw [e]; simp, by simp⟩
/-- v holds the bytes l in a row of its own, from block base on; or it is nil and there are none. -/
def BOwn (w : World) (base : Nat) (v : Value) (l : List UInt8) : Prop := (v = .slice none 0 0 ∧ l = []) ∨ ∃ g k, v = .slice (some ⟨g, 0, none⟩) l.length k ∧ base ≤ g ∧ BMine w g l
theorem BOwn.keep {w w' : World} {base : Nat} {v : Value} {l : List UInt8} (h : BOwn w base v l) (hb : Below w.heap.size w w') : BOwn w' base v l := by
  rcases h with h | ⟨g, k, e, hg, hm⟩
  · exact .inl h
  · exact .inr ⟨g, k, e, hg, hm.keep hb⟩
theorem BOwn.lower {w : World} {b0 base : Nat} {v : Value} {l : List UInt8} (h : BOwn w base v l) (hb : b0 ≤ base) : BOwn w b0 v l := by
  rcases h with h | ⟨g, k, e, hg, hm⟩
  · exact .inl h
  · exact .inr ⟨g, k, e, Nat.le_trans hb hg, hm⟩
theorem BOwn.shape {w : World} {base : Nat} {v : Value} {l : List UInt8} (h : BOwn w base v l) : ∃ a k, v = .slice a l.length k ∧ BIn w a l := by
  rcases h with ⟨rfl, rfl⟩ | ⟨g, k, rfl, hg, hm⟩
  · exact ⟨none, 0, rfl, .inl rfl⟩
  · exact ⟨_, _, rfl, hm.in⟩
theorem BOwn.block {w : World} {base : Nat} {v : Value} {l : List UInt8} (h : BOwn w base v l) : ∀ b, v.ownBlock = some b → base ≤ b ∧ b < w.heap.size := by
  rcases h with ⟨rfl, _⟩ | ⟨g, k, rfl, hg, hm⟩
  · intro b hb; cases hb
  · intro b hb; simp only [Value.ownBlock, Option.some.injEq] at hb; subst hb; exact ⟨hg, hm.lt⟩
/-- What a call hands back: a code, and bytes of its own. -/
def BGot (c : Int) (l : List UInt8) (base : Nat) (e : Ending) (w : World) : Prop := ∃ a n k, e = .returned (.agg #[.int .i64 c, .slice a n k]) ∧ BOwn w base (.slice a n k) l
theorem BGot.nil (c : Int) (base : Nat) (w : World) : BGot c [] base (.returned (.agg #[.int .i64 c, .slice none 0 0])) w := ⟨none, 0, 0, rfl, .inl ⟨rfl, rfl⟩⟩
/-- A text turned into bytes. -/
theorem bytes_of_text (w : World) (s : ByteArray) : ∃ C cap, (convert 9 22 (.string s)).run Tryz.prog w = .ok (.slice (some ⟨w.heap.size, 0, none⟩) s.size cap) (w.drew.alloc (.cells C 5 (C.size, C.size + 1))) ∧ BMine (w.drew.alloc (.cells C 5 (C.size, C.size + 1))) w.heap.size s.data.toList := by
  have h1 := run_bytes_of_string (P := Tryz.prog) w 9 22 5 s Tryz.underlying9 Tryz.underlying22 Tryz.underlying5
  have h2 := fun cap => BRow.made w s cap _ rfl
  refine ⟨_, _, h1, ?_⟩
  have h3 := h2 (grownCap w s.size 0 5)
  refine ⟨fun i c hc => ?_, fun o ho => ?_, ?_⟩
  · obtain ⟨hi, rfl⟩ := List.getElem?_eq_some_iff.1 hc
    rw [Nat.zero_add]
    exact h3.cell i hi
  · exact h3.free o ho
  · show w.heap.size < (w.drew.heap.push _).size
    rw [Array.size_push]; exact Nat.lt_succ_self _
end Go.Proofs.YtelbddgdaibolaaGreatDoor
/-
  Results that hold bytes: compared, marked, held.
-/
namespace Go.Proofs.YtelbddgdaibolaaGreatDoor
open Go.ChangeShapes Go.WideShapes Go.ChangeAt Go.RowKit Go.Sort
/-- All that was there, but for the memory of v, is as it was. -/
structure BAV (v : Value) (w w' : World) : Prop where
  size : w'.heap.size = w.heap.size
  cell : ∀ b o, b < w.heap.size → v.ownBlock ≠ some b → w'.cell? ⟨b, o, none⟩ = w.cell? ⟨b, o, none⟩
  frozen : ∀ b o, w'.frozen? ⟨b, o, none⟩ = w.frozen? ⟨b, o, none⟩
/-- v holds the marks from k on. -/
def MarkB (w : World) (v : Value) (k n : Nat) : Prop := n = 0 ∨ ∃ g c, v = .slice (some ⟨g, 0, none⟩) n c ∧ g < w.heap.size ∧ ∀ i, i < n → w.cell? ⟨g, i, none⟩ = some (.int .u8 (((k + i : Nat) : Int) % 256))
theorem MarkB.keep {w w' : World} {v : Value} {k n : Nat} (h : MarkB w v k n) (hb : Below w.heap.size w w') : MarkB w' v k n := by
  rcases h with h | ⟨g, c, e, hg, hc⟩
  · exact .inl h
  · exact .inr ⟨g, c, e, Nat.lt_of_lt_of_le hg hb.size, fun i hi => by rw [hb.cell (p := ⟨g, i, none⟩) hg]; exact hc i hi⟩
theorem MarkB.av {w w' : World} {v u : Value} {k n : Nat} (h : MarkB w v k n) (ha : BAV u w w') (hne : ∀ b, v.ownBlock = some b → u.ownBlock ≠ some b) : MarkB w' v k n := by
  rcases h with h | ⟨g, c, rfl, hg, hc⟩
  · exact .inl h
  · exact .inr ⟨g, c, rfl, by rw [ha.size]; exact hg, fun i hi => by rw [ha.cell g i hg (hne g rfl)]; exact hc i hi⟩
set_option maxHeartbeats 2000000 in
theorem markByteS_row (W : World) (g n cap k base : Nat) (hn : n ≤ 1048576) (hk : k ≤ 100000000000000) (hbase : base ≤ g) (hg : g < W.heap.size) (hm : HRoom W g n) :
    Calls Tryz.prog 108 #[.slice (some ⟨g, 0, none⟩) n cap, .int .i64 (k : Int)] W fun e w' => e = .returned (.int .i64 ((k + n : Nat) : Int)) ∧ (MarkB w' (.slice (some ⟨g, 0, none⟩) n cap) k n ∧ BAV (.slice (some ⟨g, 0, none⟩) n cap) W w' ∧ Below base W w') := by
  have HM : Hid (HRoom W g n) := hm
  clear hm
  go_enter Tryz.func108, Tryz.ntmps108
  go_wp2_with fail
  go_loopw [1, 5] (fun x i wr => ∃ j : Nat, j ≤ n ∧ i = .int .i64 (j : Int) ∧ x = .int .i64 ((k + j : Nat) : Int) ∧ HRoom wr g n ∧ (∀ q, q < j → wr.cell? ⟨g, q, none⟩ = some (.int .u8 (((k + q : Nat) : Int) % 256))) ∧ BAV (.slice (some ⟨g, 0, none⟩) n cap) W wr ∧ Below base W wr) (fun _ i _ => n - (intOf i).toNat)
  case atStart => exact ⟨0, Nat.zero_le _, rfl, rfl, HM.out, fun q hq => absurd hq (by omega), ⟨rfl, fun _ _ _ _ => rfl, fun _ _ => rfl⟩, Below.refl _ _⟩
  case round =>
    obtain ⟨j, hj, rfl, rfl, hroom, hcells, hav, hb⟩ := hrel
    clear HM
    by_cases hlt : j < n
    · obtain ⟨⟨u, hu⟩, hf⟩ := hroom j hlt
      have H1 : Hid (HRoom wr g n ∧ (∀ q, q < j → wr.cell? ⟨g, q, none⟩ = some (.int .u8 (((k + q : Nat) : Int) % 256))) ∧ BAV (.slice (some ⟨g, 0, none⟩) n cap) W wr ∧ Below base W wr) := ⟨hroom, hcells, hav, hb⟩
      have hw : IntKind.i64.wrap ((k + j : Nat) + 1 : Int) = ((k + (j + 1) : Nat) : Int) := by
        rw [show (((k + j : Nat) : Int) + 1) = ((k + (j + 1) : Nat) : Int) from by omega]
        unfold IntKind.wrap; simp [IntKind.signed, IntKind.bits]; omega
      have g1 : (j : Int) < n := by omega
      have HJ : Hid (((k + (j + 1) : Nat) : Int) = ((k + (j + 1) : Nat) : Int)) := rfl
      clear hroom hcells hav hb
      obtain ⟨K, hK⟩ : ∃ K : Int, K = ((k + j : Nat) : Int) := ⟨_, rfl⟩
      have HK : Hid (K = ((k + j : Nat) : Int)) := hK
      rw [← hK] at hw ⊢
      clear hK
      go_wp2_with fail
      refine ⟨⟨j + 1, by omega, by congr 1, by congr 1, ?_⟩, by simp [intOf]; omega⟩
      obtain ⟨hroom, hcells, hav, hb⟩ := H1.out
      rw [HK.out]
      refine ⟨hroom.set _ _, fun q hq => ?_, ⟨by simpa using hav.size, fun b o hb0 hne => ?_, fun b o => by rw [World.frozen?_setCell]; exact hav.frozen b o⟩, hb.setCell hbase _⟩
      · by_cases e : q = j
        · subst e; exact World.cell?_setCell_same _ _ _ hu
        · rw [World.cell?_setCell_other _ _ _ _ (hoff_ne (by omega))]; exact hcells q (by omega)
      · have hbg : b ≠ g := fun e => hne (by subst e; rfl)
        rw [World.cell?_setCell_other _ _ _ _ (fun e => hbg (congrArg Addr.block e).symm)]
        exact hav.cell b o hb0 hne
    · have ej : j = n := by omega
      subst ej
      have HF : Hid (MarkB wr (.slice (some ⟨g, 0, none⟩) j cap) k j ∧ BAV (.slice (some ⟨g, 0, none⟩) j cap) W wr ∧ Below base W wr) := ⟨.inr ⟨g, cap, rfl, by rw [hav.size]; exact hg, hcells⟩, hav, hb⟩
      clear hcells hav hb hroom
      obtain ⟨K, hK⟩ : ∃ K : Int, K = ((k + j : Nat) : Int) := ⟨_, rfl⟩
      have HK : Hid (K = ((k + j : Nat) : Int)) := hK
      rw [← hK]
      clear hK
      go_wp2_with fail
      go_ret
      exact ⟨ret_int (by rw [HK.out]), HF.out⟩
set_option maxHeartbeats 2000000 in
theorem heldByteS_row (W : World) (g n cap k : Nat) (hn : n ≤ 1048576) (hk : k ≤ 100000000000000) (hc : ∀ i, i < n → W.cell? ⟨g, i, none⟩ = some (.int .u8 (((k + i : Nat) : Int) % 256))) :
    Calls Tryz.prog 146 #[.slice (some ⟨g, 0, none⟩) n cap, .int .i64 (k : Int)] W fun e w' => e = .returned (.int .i64 ((k + n : Nat) : Int)) ∧ w' = W := by
  have HC : Hid (∀ i, i < n → W.cell? ⟨g, i, none⟩ = some (.int .u8 (((k + i : Nat) : Int) % 256))) := hc
  clear hc
  go_enter Tryz.func146, Tryz.ntmps146
  go_wp2_with fail
  go_loop [1, 5] (fun x i => ∃ j : Nat, j ≤ n ∧ i = .int .i64 (j : Int) ∧ x = .int .i64 ((k + j : Nat) : Int)) (fun _ i => n - (intOf i).toNat)
  case atStart => exact ⟨0, Nat.zero_le _, rfl, rfl⟩
  case round =>
    obtain ⟨j, hj, rfl, rfl⟩ := hrel
    by_cases hlt : j < n
    · have hu := HC.out j hlt
      have hw : IntKind.i64.wrap ((k + j : Nat) + 1 : Int) = ((k + (j + 1) : Nat) : Int) := by
        rw [show (((k + j : Nat) : Int) + 1) = ((k + (j + 1) : Nat) : Int) from by omega]
        unfold IntKind.wrap; simp [IntKind.signed, IntKind.bits]; omega
      have g1 : (j : Int) < n := by omega
      obtain ⟨K, hK⟩ : ∃ K : Int, K = ((k + j : Nat) : Int) := ⟨_, rfl⟩
      rw [← hK] at hw hu ⊢
      clear hK
      go_wp2_with fail
      exact ⟨⟨j + 1, by omega, by congr 1, by congr 1⟩, by simp [intOf]; omega⟩
    · have ej : j = n := by omega
      subst ej
      clear HC
      obtain ⟨K, hK⟩ : ∃ K : Int, K = ((k + j : Nat) : Int) := ⟨_, rfl⟩
      have HK : Hid (K = ((k + j : Nat) : Int)) := hK
      rw [← hK]
      clear hK
      go_wp2_with fail
      go_ret
      exact ⟨ret_int (by rw [HK.out]; omega), rfl⟩
/-! ### as results -/
end Go.Proofs.YtelbddgdaibolaaGreatDoor
/-
  Answers of PeekEntry, handed over by the laws: compared, marked, held.
-/
namespace Go.Proofs.YtelbddgdaibolaaGreatDoor
open Go.ChangeShapes Go.WideShapes Go.ChangeAt Go.RowKit Go.Sort
set_option maxHeartbeats 4000000 in
theorem eqEntR_same (w : World) (c : Int) (x : Ent) (r s : EntR) (hf : EntFit x) (h1 : EntIn w x r) (h2 : EntIn w x s) :
    Calls Tryz.prog 35 #[.agg #[.int .i64 c, .string x.key, .int .i64 x.st, .slice r.ha x.hs.length r.hc, .slice r.ba x.bl.length r.bc, .int .i64 x.t, .int .i64 x.g, .int .i64 x.l, .int .i64 x.s, .int .i64 x.e, .bool x.b1, .bool x.b2, .slice r.ta x.ts.length r.tc, .int .i64 x.pins], .agg #[.int .i64 c, .string x.key, .int .i64 x.st, .slice s.ha x.hs.length s.hc, .slice s.ba x.bl.length s.bc, .int .i64 x.t, .int .i64 x.g, .int .i64 x.l, .int .i64 x.s, .int .i64 x.e, .bool x.b1, .bool x.b2, .slice s.ta x.ts.length s.tc, .int .i64 x.pins]] w fun e w' => e = .returned (.bool true) ∧ Below w.heap.size w w' := by
  have HC : Hid (∀ X, Below w.heap.size w X → Calls Tryz.prog 46 #[.agg #[.string x.key, .int .i64 x.st, .slice r.ha x.hs.length r.hc, .slice r.ba x.bl.length r.bc, .int .i64 x.t, .int .i64 x.g, .int .i64 x.l, .int .i64 x.s, .int .i64 x.e, .bool x.b1, .bool x.b2, .slice r.ta x.ts.length r.tc, .int .i64 x.pins], .agg #[.string x.key, .int .i64 x.st, .slice s.ha x.hs.length s.hc, .slice s.ba x.bl.length s.bc, .int .i64 x.t, .int .i64 x.g, .int .i64 x.l, .int .i64 x.s, .int .i64 x.e, .bool x.b1, .bool x.b2, .slice s.ta x.ts.length s.tc, .int .i64 x.pins]] X fun e w' => e = .returned (.bool true) ∧ Below X.heap.size X w') := fun X hX => eqEntry_q X x r s hf (h1.keep hX) (h2.keep hX)
  have B0 : Hid (Below w.heap.size w ((w.alloc (.cells #[.int .i64 c, .string x.key, .int .i64 x.st, .slice r.ha x.hs.length r.hc, .slice r.ba x.bl.length r.bc, .int .i64 x.t, .int .i64 x.g, .int .i64 x.l, .int .i64 x.s, .int .i64 x.e, .bool x.b1, .bool x.b2, .slice r.ta x.ts.length r.tc, .int .i64 x.pins] 42)).alloc (.cells #[.int .i64 c, .string x.key, .int .i64 x.st, .slice s.ha x.hs.length s.hc, .slice s.ba x.bl.length s.bc, .int .i64 x.t, .int .i64 x.g, .int .i64 x.l, .int .i64 x.s, .int .i64 x.e, .bool x.b1, .bool x.b2, .slice s.ta x.ts.length s.tc, .int .i64 x.pins] 42))) := ((Below.refl _ _).alloc (Nat.le_refl _) _).alloc (by simp) _
  clear h1 h2 hf
  go_enter Tryz.func35, Tryz.ntmps35
  go_wp2_with fail
  refine (HC.out _ B0.out).mono ?_
  rintro e w1 ⟨rfl, hb1⟩
  have B1 : Hid (Below w.heap.size w w1) := B0.out.trans (hb1.mono B0.out.size)
  clear hb1 B0 HC
  go_wp2_with fail
  go_ret
  exact ⟨rfl, B1.out⟩
end Go.Proofs.YtelbddgdaibolaaGreatDoor
/-
  A store that is marked all over: what lies outside of it is as it was.
-/
namespace Go.Proofs.YtelbddgdaibolaaGreatDoor
open Go.ChangeShapes Go.WideShapes Go.ChangeAt Go.RowKit Go.Sort
/-- What was there from block hi on is as it was. -/
structure Above (hi : Nat) (w w' : World) : Prop where
  size : w.heap.size ≤ w'.heap.size
  cell : ∀ b o, hi ≤ b → b < w.heap.size → w'.cell? ⟨b, o, none⟩ = w.cell? ⟨b, o, none⟩
  frozen : ∀ b o, hi ≤ b → b < w.heap.size → w'.frozen? ⟨b, o, none⟩ = w.frozen? ⟨b, o, none⟩
theorem Above.refl (hi : Nat) (w : World) : Above hi w w := ⟨Nat.le_refl _, fun _ _ _ _ => rfl, fun _ _ _ _ => rfl⟩
theorem Above.trans {hi : Nat} {w w1 w2 : World} (h : Above hi w w1) (k : Above hi w1 w2) : Above hi w w2 :=
  ⟨Nat.le_trans h.size k.size, fun b o hb hn => by rw [k.cell b o hb (Nat.lt_of_lt_of_le hn h.size), h.cell b o hb hn], fun b o hb hn => by rw [k.frozen b o hb (Nat.lt_of_lt_of_le hn h.size), h.frozen b o hb hn]⟩
theorem Above.apart {hi B : Nat} {w w' : World} (h : Apart B w w') (hB : B < hi) : Above hi w w' :=
  ⟨h.size, fun b o hb hn => h.cell b o hn (by omega), fun b o hb hn => h.frozen b o hn (by omega)⟩
theorem Above.below {hi : Nat} {w w' : World} (h : Below w.heap.size w w') : Above hi w w' :=
  ⟨h.size, fun b o _ hn => h.cell (p := ⟨b, o, none⟩) hn, fun b o _ hn => h.frozen (p := ⟨b, o, none⟩) hn⟩
theorem QMine.apart {W W' : World} {B b : Nat} {l : List Hdr} (h : QMine W b l) (k : Apart B W W') (hne : b ≠ B) : QMine W' b l :=
  ⟨fun i r hr => by rw [k.cell b _ h.lt hne, k.cell b _ h.lt hne]; exact h.at0 i r hr, fun o => by rw [k.frozen b o h.lt hne]; exact h.free o, Nat.lt_of_lt_of_le h.lt k.size⟩
theorem BMine.apart {W W' : World} {B b : Nat} {l : List UInt8} (h : BMine W b l) (k : Apart B W W') (hne : b ≠ B) : BMine W' b l :=
  ⟨fun i r hr => by rw [k.cell b _ h.lt hne]; exact h.at0 i r hr, fun o ho => by rw [k.frozen b o h.lt hne]; exact h.free o ho, Nat.lt_of_lt_of_le h.lt k.size⟩
theorem TMine.apart {W W' : World} {B b : Nat} {l : List ByteArray} (h : TMine W b l) (k : Apart B W W') (hne : b ≠ B) : TMine W' b l :=
  ⟨fun i r hr => by rw [k.cell b _ h.lt hne]; exact h.at0 i r hr, fun o ho => by rw [k.frozen b o h.lt hne]; exact h.free o ho, Nat.lt_of_lt_of_le h.lt k.size⟩
theorem EntOwn.apart {W W' : World} {B : Nat} {x : Ent} {r : EntR} (h : EntOwn W x r) (k : Apart B W W') (hne : B < blk r.ha) : EntOwn W' x r := by
  obtain ⟨B1, B2, B3, rfl, h1, h2, h3, h4, h5⟩ := h
  have q : B < B1 := hne
  exact ⟨B1, B2, B3, rfl, h1.apart k (by omega), h2.apart k (by omega), h3.apart k (by omega), h4, h5⟩
theorem HRoom.apart {W W' : World} {B G m : Nat} (h : HRoom W G m) (hG : G < W.heap.size) (k : Apart B W W') (hne : G ≠ B) : HRoom W' G m := fun j hj => by
  obtain ⟨⟨u, hu⟩, hf⟩ := h j hj
  exact ⟨⟨u, by rw [k.cell G j hG hne]; exact hu⟩, by rw [k.frozen G j hG hne]; exact hf⟩
/-- The entries from k on are as they were. -/
structure EFrom (W : World) (G k n : Nat) (l : List (Ent × EntR)) : Prop where
  cell : ∀ (i : Nat) q, k ≤ i → l[i]? = some q → ∀ j, j < 13 → W.cell? ⟨G, i * 13 + j, none⟩ = (entW q.1 q.2)[j]?
  own : ∀ (i : Nat) q, k ≤ i → l[i]? = some q → EntOwn W q.1 q.2
  room : HRoom W G (n * 13)
  lt : G < W.heap.size
theorem EFrom.next {W : World} {G k n : Nat} {l : List (Ent × EntR)} (h : EFrom W G k n l) : EFrom W G (k + 1) n l := ⟨fun i q hi => h.cell i q (by omega), fun i q hi => h.own i q (by omega), h.room, h.lt⟩
theorem EFrom.apart {W W' : World} {B G k n : Nat} {l : List (Ent × EntR)} (h : EFrom W G k n l) (a : Apart B W W') (hG : G ≠ B) (hB : ∀ (i : Nat) q, k ≤ i → l[i]? = some q → B < blk q.2.ha) : EFrom W' G k n l :=
  ⟨fun i q hi hq j hj => by rw [a.cell G _ h.lt hG]; exact h.cell i q hi hq j hj, fun i q hi hq => (h.own i q hi hq).apart a (hB i q hi hq), h.room.apart h.lt a hG, Nat.lt_of_lt_of_le h.lt a.size⟩
theorem EFrom.below {W W' : World} {G k n : Nat} {l : List (Ent × EntR)} (h : EFrom W G k n l) (b : Below W.heap.size W W') : EFrom W' G k n l :=
  ⟨fun i q hi hq j hj => by rw [b.cell (p := ⟨G, i * 13 + j, none⟩) h.lt]; exact h.cell i q hi hq j hj, fun i q hi hq => (h.own i q hi hq).keep b, h.room.keep b, Nat.lt_of_lt_of_le h.lt b.size⟩
theorem EFrom.set {W : World} {G k n : Nat} {l : List (Ent × EntR)} (h : EFrom W G (k + 1) n l) (hup : ∀ q ∈ l, G < blk q.2.ha) (o : Nat) (ho : o < (k + 1) * 13) (u : Value) : EFrom (W.setCell ⟨G, o, none⟩ u) G (k + 1) n l := by
  refine ⟨fun i q hi hq j hj => ?_, fun i q hi hq => (h.own i q hi hq).off1 u (hup q (List.mem_of_getElem? hq)), h.room.set _ _, by simpa using h.lt⟩
  rw [World.cell?_setCell_other _ _ _ _ (hoff_ne (by omega))]
  exact h.cell i q hi hq j hj
/-- While entry k is being marked. -/
structure MS (w : World) (lo hi G n k : Nat) (l : List (Ent × EntR)) (v2 v3 v11 : Value) (W : World) : Prop where
  fr : EFrom W G (k + 1) n l
  c2 : W.cell? ⟨G, k * 13 + 2, none⟩ = some v2
  c3 : W.cell? ⟨G, k * 13 + 3, none⟩ = some v3
  c11 : W.cell? ⟨G, k * 13 + 11, none⟩ = some v11
  bl : Below lo w W
  ab : Above hi w W
  le : lo ≤ w.heap.size
section
variable {w W W' : World} {lo hi G n k : Nat} {l : List (Ent × EntR)} {v2 v3 v11 : Value}
theorem MS.below (h : MS w lo hi G n k l v2 v3 v11 W) (b : Below W.heap.size W W') : MS w lo hi G n k l v2 v3 v11 W' :=
  ⟨h.fr.below b, by rw [b.cell (p := ⟨G, k * 13 + 2, none⟩) h.fr.lt]; exact h.c2, by rw [b.cell (p := ⟨G, k * 13 + 3, none⟩) h.fr.lt]; exact h.c3, by rw [b.cell (p := ⟨G, k * 13 + 11, none⟩) h.fr.lt]; exact h.c11, h.bl.trans (b.mono (Nat.le_trans h.le h.bl.size)), h.ab.trans (.below b), h.le⟩
theorem MS.set (h : MS w lo hi G n k l v2 v3 v11 W) (hup : ∀ q ∈ l, G < blk q.2.ha) (hlo : lo ≤ G) (hhi : G < hi) (j : Nat) (hj : j < 13) (h2 : j ≠ 2) (h3 : j ≠ 3) (h4 : j ≠ 11) (u : Value) : MS w lo hi G n k l v2 v3 v11 (W.setCell ⟨G, k * 13 + j, none⟩ u) :=
  ⟨h.fr.set hup _ (by omega) u, by rw [World.cell?_setCell_other _ _ _ _ (hoff_ne (by omega))]; exact h.c2, by rw [World.cell?_setCell_other _ _ _ _ (hoff_ne (by omega))]; exact h.c3, by rw [World.cell?_setCell_other _ _ _ _ (hoff_ne (by omega))]; exact h.c11, h.bl.setCell hlo u, h.ab.trans (.apart (Apart.set G _ W u) hhi), h.le⟩
theorem MS.apart (h : MS w lo hi G n k l v2 v3 v11 W) {B : Nat} (a : Apart B W W') (b : Below B W W') (hlo : lo ≤ B) (hhi : B < hi) (hG : G < B) (hB : ∀ (i : Nat) q, k + 1 ≤ i → l[i]? = some q → B < blk q.2.ha) : MS w lo hi G n k l v2 v3 v11 W' :=
  ⟨h.fr.apart a (by omega) hB, by rw [a.cell G _ h.fr.lt (by omega)]; exact h.c2, by rw [a.cell G _ h.fr.lt (by omega)]; exact h.c3, by rw [a.cell G _ h.fr.lt (by omega)]; exact h.c11, h.bl.trans (b.mono hlo), h.ab.trans (.apart a hhi), h.le⟩
end
set_option maxHeartbeats 4000000 in
theorem markTS_row (W : World) (g n cap k : Nat) (hn : n ≤ 1048576) (hk0 : 1 ≤ k) (hk : k ≤ 100000000000000) (hg : g < W.heap.size) (hm : HRoom W g n) :
    Calls Tryz.prog 109 #[.slice (some ⟨g, 0, none⟩) n cap, .int .i64 (k : Int)] W fun e w' => e = .returned (.int .i64 ((k + n : Nat) : Int)) ∧ Apart g W w' ∧ Below g W w' := by
  have HM : Hid (HRoom W g n) := hm
  clear hm
  go_enter Tryz.func109, Tryz.ntmps109
  go_wp2_with fail
  go_loopw [1, 5] (fun x i wr => ∃ j : Nat, j ≤ n ∧ i = .int .i64 (j : Int) ∧ x = .int .i64 ((k + j : Nat) : Int) ∧ HRoom wr g n ∧ g < wr.heap.size ∧ Apart g W wr ∧ Below g W wr) (fun _ i _ => n - (intOf i).toNat)
  case atStart => exact ⟨0, Nat.zero_le _, rfl, rfl, HM.out, hg, .refl _ _, Below.refl _ _⟩
  case round =>
    obtain ⟨j, hj, rfl, rfl, hm, hgw, ha, hb⟩ := hrel
    by_cases hlt : j < n
    · have C : Hid (Calls Tryz.prog 144 #[.int .i64 ((k + j : Nat) : Int)] wr fun e w' => e = .returned (.string (mkT (k + j))) ∧ Below wr.heap.size wr w') := markText_any (k + j) (by omega) (by omega) wr
      have HK : Hid (HRoom wr g n ∧ Apart g W wr ∧ Below g W wr) := ⟨hm, ha, hb⟩
      have gj : (j : Int) < n := by omega
      have gj0 : (0 : Int) ≤ j := by omega
      clear hm ha hb HM
      go_wp2_with fail
      refine C.out.mono ?_
      rintro e w2 ⟨rfl, hb2⟩
      have hm2 := HK.out.1.keep hb2
      obtain ⟨⟨u, hu⟩, hf⟩ := hm2 j hlt
      have HN : Hid (∀ v, HRoom (w2.setCell ⟨g, j, none⟩ v) g n ∧ g < (w2.setCell ⟨g, j, none⟩ v).heap.size ∧ Apart g W (w2.setCell ⟨g, j, none⟩ v) ∧ Below g W (w2.setCell ⟨g, j, none⟩ v)) := fun v => ⟨hm2.set _ _, by simpa using Nat.lt_of_lt_of_le hgw hb2.size, (HK.out.2.1.trans (.below hb2)).trans (Apart.set g _ _ _), (HK.out.2.2.trans (hb2.mono (Nat.le_of_lt hgw))).setCell (Nat.le_refl _) _⟩
      clear hb2 hm2 HK C
      go_wp2_with fail
      go_roundw
      case rel => exact ⟨j + 1, by omega, by go_num, by go_num, (HN.out _).1, (HN.out _).2.1, (HN.out _).2.2.1, (HN.out _).2.2.2⟩
      case measure => simp [intOf]; omega
    · have e : j = n := by omega
      subst e
      go_wp2_with fail
      go_ret
      exact ⟨rfl, ha, hb⟩
theorem BMine.room {W : World} {B : Nat} {l : List UInt8} (h : BMine W B l) : HRoom W B l.length := fun j hj => ⟨⟨_, by have := h.at0 j l[j] (List.getElem?_eq_getElem hj); rw [Nat.zero_add] at this; exact this⟩, h.free j hj⟩
theorem TMine.room {W : World} {B : Nat} {l : List ByteArray} (h : TMine W B l) : HRoom W B l.length := fun j hj => ⟨⟨_, by have := h.at0 j l[j] (List.getElem?_eq_getElem hj); rw [Nat.zero_add] at this; exact this⟩, h.free j hj⟩
theorem BAV.ap {g n c : Nat} {w w' : World} (h : BAV (.slice (some ⟨g, 0, none⟩) n c) w w') : Apart g w w' :=
  ⟨by rw [h.size]; exact Nat.le_refl _, fun b o hb hn => h.cell b o hb (by simp only [Value.ownBlock, ne_eq, Option.some.injEq]; omega), fun b o _ _ => h.frozen b o⟩
set_option maxRecDepth 100000 in
set_option maxHeartbeats 16000000 in
theorem markES_weak (w : World) (lo hi G cap c0 : Nat) (l : List (Ent × EntR)) (hl : l.length ≤ 1048576) (hf : ∀ q ∈ l, EntFit q.1) (hm : EntsMine w G l) (hr : HRoom w G (l.length * 13)) (hlo : lo ≤ G) (hhi : G < hi) (hhs : hi ≤ w.heap.size) (hub : ∀ q ∈ l, blk q.2.ta < hi) (hc0 : 1 ≤ c0) (hc1 : c0 ≤ 10000000000000) :
    Calls Tryz.prog 93 #[.slice (some ⟨G, 0, none⟩) l.length cap, .int .i64 (c0 : Int)] w fun e w' => (∃ c1 : Nat, e = .returned (.int .i64 (c1 : Int)) ∧ 1 ≤ c1 ∧ c1 ≤ c0 + l.length * 4194314) ∧ Below lo w w' ∧ Above hi w w' := by
  have HUP : Hid (∀ q ∈ l, G < blk q.2.ha) := hm.up
  have HPW : Hid (∀ (i j : Nat) q q', i < j → l[i]? = some q → l[j]? = some q' → blk q.2.ta < blk q'.2.ha) := fun i j q q' hij hi hj => by
    obtain ⟨h1, e1⟩ := List.getElem?_eq_some_iff.1 hi
    obtain ⟨h2, e2⟩ := List.getElem?_eq_some_iff.1 hj
    have := List.pairwise_iff_getElem.1 hm.pw i j h1 h2 hij
    rw [e1, e2] at this
    exact this
  have HUB : Hid (∀ q ∈ l, blk q.2.ta < hi) := hub
  have HFT : Hid (∀ q ∈ l, EntFit q.1) := hf
  have HST : Hid (EFrom w G 0 l.length l) := ⟨fun i q _ hq j hj => hm.cell i q hq j hj, fun i q _ hq => hm.own q (List.mem_of_getElem? hq), hr, hm.lt⟩
  clear hm hr hub hf
  obtain ⟨n, hn0⟩ : ∃ n, l.length = n := ⟨_, rfl⟩
  rw [hn0] at HST hl ⊢
  have HN : Hid (l.length = n) := hn0
  clear hn0
  go_enter Tryz.func93, Tryz.ntmps93
  go_wp2_with fail
  go_loopw [1, 5] (fun x i wr => ∃ k c : Nat, k ≤ n ∧ i = .int .i64 (k : Int) ∧ x = .int .i64 (c : Int) ∧ 1 ≤ c ∧ c ≤ c0 + k * 4194314 ∧ EFrom wr G k n l ∧ Below lo w wr ∧ Above hi w wr) (fun _ i _ => n - (intOf i).toNat)
  case atStart => exact ⟨0, c0, Nat.zero_le _, rfl, rfl, hc0, by omega, HST.out, Below.refl _ _, .refl _ _⟩
  case round =>
    obtain ⟨k, c, hk, rfl, rfl, h1, h2, hfr, hb, hab⟩ := hrel
    clear HST
    by_cases hlt : k < n
    · obtain ⟨⟨x, r⟩, hq⟩ : ∃ r, l[k]? = some r := ⟨l[k]'(by have := HN.out; omega), List.getElem?_eq_getElem _⟩
      have hmem := List.mem_of_getElem? hq
      have ft := HFT.out _ hmem
      have hcell := hfr.cell k _ (Nat.le_refl _) hq
      have ho := hfr.own k _ (Nat.le_refl _) hq
      simp only at ho
      obtain ⟨B1, B2, B3, er, m1, m2, m3, hb12, hb23⟩ := ho
      subst er
      have hG1 : G < B1 := HUP.out _ hmem
      have hB3 : B3 < hi := HUB.out _ hmem
      have HNX : Hid (∀ (i : Nat) q, k + 1 ≤ i → l[i]? = some q → B3 < blk q.2.ha) := fun i q hi' hq' => HPW.out k i _ q (by omega) hq hq'
      have z2 : wr.cell? ⟨G, k * 13 + 2, none⟩ = some (.slice (some ⟨B1, 0, none⟩) x.hs.length x.hs.length) := hcell 2 (by omega)
      have z3 : wr.cell? ⟨G, k * 13 + 3, none⟩ = some (.slice (some ⟨B2, 0, none⟩) x.bl.length x.bl.length) := hcell 3 (by omega)
      have z11 : wr.cell? ⟨G, k * 13 + 11, none⟩ = some (.slice (some ⟨B3, 0, none⟩) x.ts.length x.ts.length) := hcell 11 (by omega)
      have Q0 : Hid (MS w lo hi G n k l (.slice (some ⟨B1, 0, none⟩) x.hs.length x.hs.length) (.slice (some ⟨B2, 0, none⟩) x.bl.length x.bl.length) (.slice (some ⟨B3, 0, none⟩) x.ts.length x.ts.length) wr) := ⟨hfr.next, z2, z3, z11, hb, hab, by omega⟩
      have M1 : Hid (QMine wr B1 x.hs) := m1
      have M2 : Hid (BMine wr B2 x.bl) := m2
      have M3 : Hid (TMine wr B3 x.ts) := m3
      obtain ⟨f1, f2, f3⟩ := ft
      simp only at f1 f2 f3
      clear z2 z3 z11 hcell hfr hb hab m1 m2 m3 hq hmem HPW HUB HFT
      obtain ⟨hn, ehn⟩ : ∃ n, Hid (x.hs.length = n) := ⟨_, rfl⟩
      obtain ⟨bn, ebn⟩ : ∃ n, Hid (x.bl.length = n) := ⟨_, rfl⟩
      obtain ⟨tn, etn⟩ : ∃ n, Hid (x.ts.length = n) := ⟨_, rfl⟩
      rw [ehn.out, ebn.out, etn.out] at Q0
      rw [ehn.out] at f1
      rw [ebn.out] at f2
      rw [etn.out] at f3
      have CT : Hid (Calls Tryz.prog 144 #[.int .i64 (c : Int)] wr fun e w' => e = .returned (.string (mkT c)) ∧ Below wr.heap.size wr w') := markText_any c (by omega) (by omega) wr
      have gk : (k : Int) < n := by omega
      have gk0 : (0 : Int) ≤ k := by omega
      go_wp2_with fail
      refine CT.out.mono ?_
      rintro e w1 ⟨rfl, hb1⟩
      have Q1 := Q0.out.below hb1
      have N1 : Hid (QMine w1 B1 x.hs ∧ BMine w1 B2 x.bl ∧ TMine w1 B3 x.ts) := ⟨M1.out.keep hb1, M2.out.keep hb1, M3.out.keep hb1⟩
      obtain ⟨⟨u0, g0⟩, f0⟩ := Q1.fr.room (k * 13) (by omega)
      obtain ⟨⟨u1, g1⟩, fz1⟩ := Q1.fr.room (k * 13 + 1) (by omega)
      obtain ⟨V1, hV1⟩ : ∃ V, V = (w1.setCell ⟨G, k * 13, none⟩ (.string (mkT c))).setCell ⟨G, k * 13 + 1, none⟩ (.int .i64 ((c : Int) + 1)) := ⟨_, rfl⟩
      have HV1 : Hid (V1 = (w1.setCell ⟨G, k * 13, none⟩ (.string (mkT c))).setCell ⟨G, k * 13 + 1, none⟩ (.int .i64 ((c : Int) + 1))) := hV1
      have Q2 : Hid (MS w lo hi G n k l (.slice (some ⟨B1, 0, none⟩) hn hn) (.slice (some ⟨B2, 0, none⟩) bn bn) (.slice (some ⟨B3, 0, none⟩) tn tn) V1 ∧ QMine V1 B1 x.hs ∧ BMine V1 B2 x.bl ∧ TMine V1 B3 x.ts) := by
        rw [hV1]
        exact ⟨(Q1.set HUP.out hlo hhi 0 (by omega) (by omega) (by omega) (by omega) _).set HUP.out hlo hhi 1 (by omega) (by omega) (by omega) (by omega) _, (N1.out.1.off1 _ (by omega)).off1 _ (by omega), (N1.out.2.1.off1 _ (by omega)).off1 _ (by omega), (N1.out.2.2.off1 _ (by omega)).off1 _ (by omega)⟩
      have y2 := Q1.c2
      clear hV1 N1 hb1 CT Q0 M1 M2 M3 Q1
      have e1 : IntKind.i64.wrap ((c : Int) + 1) = (c : Int) + 1 := by unfold IntKind.wrap; simp [IntKind.signed, IntKind.bits]; omega
      have e2 : IntKind.i64.wrap ((c : Int) + 1 + 1) = (c : Int) + 1 + 1 := by unfold IntKind.wrap; simp [IntKind.signed, IntKind.bits]; omega
      have CH : Hid (Calls Tryz.prog 107 #[.slice (some ⟨B1, 0, none⟩) hn hn, .int .i64 ((c : Int) + 1 + 1)] V1 fun e w' => e = .returned (.int .i64 ((c : Int) + 1 + 1 + 2 * (hn : Int))) ∧ Apart B1 V1 w' ∧ Below B1 V1 w') := by
        have := markHeaderS_any V1 B1 0 hn hn (c + 1 + 1) x.hs ehn.out f1 (by omega) (by omega) Q2.out.2.1.at0 Q2.out.2.1.free Q2.out.2.1.lt
        rw [show (((c + 1 + 1 : Nat)) : Int) = (c : Int) + 1 + 1 from by omega, show (((c + 1 + 1 + 2 * hn : Nat)) : Int) = (c : Int) + 1 + 1 + 2 * (hn : Int) from by omega] at this
        exact this.mono (fun e w' h => ⟨h.1, h.2.2.1, h.2.2.2.1⟩)
      go_wp2_with fail
      rw [← HV1.out]
      refine CH.out.mono ?_
      rintro e w3 ⟨rfl, ha3, hb3⟩
      have Q3 : Hid (MS w lo hi G n k l (.slice (some ⟨B1, 0, none⟩) hn hn) (.slice (some ⟨B2, 0, none⟩) bn bn) (.slice (some ⟨B3, 0, none⟩) tn tn) w3 ∧ BMine w3 B2 x.bl ∧ TMine w3 B3 x.ts) := ⟨Q2.out.1.apart ha3 hb3 (by omega) (by omega) hG1 (fun i q h h' => by have := HNX.out i q h h'; omega), Q2.out.2.2.1.apart ha3 (by omega), Q2.out.2.2.2.apart ha3 (by omega)⟩
      clear Q2 CH ha3 hb3 HV1 y2 g0 f0 g1
      have y3 := Q3.out.1.c3
      obtain ⟨d, hd⟩ : ∃ d : Nat, Hid (c + 1 + 1 + 2 * hn = d) := ⟨_, rfl⟩
      have ed : (c : Int) + 1 + 1 + 2 * (hn : Int) = (d : Int) := by have := hd.out; omega
      have hdle : d ≤ c + 2 + 2 * hn := by have := hd.out; omega
      have hdge : 1 ≤ d := by have := hd.out; omega
      rw [ed]
      have CB : Hid (Calls Tryz.prog 108 #[.slice (some ⟨B2, 0, none⟩) bn bn, .int .i64 (d : Int)] w3 fun e w' => e = .returned (.int .i64 ((d + bn : Nat) : Int)) ∧ Apart B2 w3 w' ∧ Below B2 w3 w') := by
        have hrm := Q3.out.2.1.room
        rw [ebn.out] at hrm
        exact (markByteS_row w3 B2 bn bn d B2 f2 (by omega) (Nat.le_refl _) Q3.out.2.1.lt hrm).mono (fun e w' h => ⟨h.1, h.2.2.1.ap, h.2.2.2⟩)
      go_wp2_with fail
      refine CB.out.mono ?_
      rintro e w4 ⟨rfl, ha4, hb4⟩
      have Q4 : Hid (MS w lo hi G n k l (.slice (some ⟨B1, 0, none⟩) hn hn) (.slice (some ⟨B2, 0, none⟩) bn bn) (.slice (some ⟨B3, 0, none⟩) tn tn) w4 ∧ TMine w4 B3 x.ts) := ⟨Q3.out.1.apart ha4 hb4 (by omega) (by omega) (by omega) (fun i q h h' => by have := HNX.out i q h h'; omega), Q3.out.2.2.apart ha4 (by omega)⟩
      clear Q3 CB ha4 hb4 y3 ed
      obtain ⟨m, hm⟩ : ∃ m : Nat, Hid (d + bn = m) := ⟨_, rfl⟩
      rw [hm.out]
      have hmle : m ≤ c + 2 + 2 * hn + bn := by have := hm.out; omega
      have hmge : 1 ≤ m := by have := hm.out; omega
      clear hd hm hdle hdge
      obtain ⟨⟨u4, g4⟩, fz4⟩ := Q4.out.1.fr.room (k * 13 + 4) (by omega)
      obtain ⟨⟨u5, g5⟩, fz5⟩ := Q4.out.1.fr.room (k * 13 + 5) (by omega)
      obtain ⟨⟨u6, g6⟩, fz6⟩ := Q4.out.1.fr.room (k * 13 + 6) (by omega)
      obtain ⟨⟨u7, g7⟩, fz7⟩ := Q4.out.1.fr.room (k * 13 + 7) (by omega)
      obtain ⟨⟨u8, g8⟩, fz8⟩ := Q4.out.1.fr.room (k * 13 + 8) (by omega)
      obtain ⟨⟨u9, g9⟩, fz9⟩ := Q4.out.1.fr.room (k * 13 + 9) (by omega)
      obtain ⟨⟨u10, g10⟩, fz10⟩ := Q4.out.1.fr.room (k * 13 + 10) (by omega)
      have s1 : IntKind.i64.wrap ((m : Int) + 1) = (m : Int) + 1 := by unfold IntKind.wrap; simp [IntKind.signed, IntKind.bits]; omega
      have s2 : IntKind.i64.wrap ((m : Int) + 1 + 1) = (m : Int) + 1 + 1 := by unfold IntKind.wrap; simp [IntKind.signed, IntKind.bits]; omega
      have s3 : IntKind.i64.wrap ((m : Int) + 1 + 1 + 1) = (m : Int) + 1 + 1 + 1 := by unfold IntKind.wrap; simp [IntKind.signed, IntKind.bits]; omega
      have s4 : IntKind.i64.wrap ((m : Int) + 1 + 1 + 1 + 1) = (m : Int) + 1 + 1 + 1 + 1 := by unfold IntKind.wrap; simp [IntKind.signed, IntKind.bits]; omega
      have s5 : IntKind.i64.wrap ((m : Int) + 1 + 1 + 1 + 1 + 1) = (m : Int) + 1 + 1 + 1 + 1 + 1 := by unfold IntKind.wrap; simp [IntKind.signed, IntKind.bits]; omega
      have s6 : IntKind.i64.wrap ((m : Int) + 1 + 1 + 1 + 1 + 1 + 1) = (m : Int) + 1 + 1 + 1 + 1 + 1 + 1 := by unfold IntKind.wrap; simp [IntKind.signed, IntKind.bits]; omega
      have s7 : IntKind.i64.wrap ((m : Int) + 1 + 1 + 1 + 1 + 1 + 1 + 1) = (m : Int) + 1 + 1 + 1 + 1 + 1 + 1 + 1 := by unfold IntKind.wrap; simp [IntKind.signed, IntKind.bits]; omega
      have SETS : Hid (∀ a0 a1 a2 a3 a4 a5 a6, MS w lo hi G n k l (.slice (some ⟨B1, 0, none⟩) hn hn) (.slice (some ⟨B2, 0, none⟩) bn bn) (.slice (some ⟨B3, 0, none⟩) tn tn) (((((((w4.setCell ⟨G, k * 13 + 4, none⟩ a0).setCell ⟨G, k * 13 + 5, none⟩ a1).setCell ⟨G, k * 13 + 6, none⟩ a2).setCell ⟨G, k * 13 + 7, none⟩ a3).setCell ⟨G, k * 13 + 8, none⟩ a4).setCell ⟨G, k * 13 + 9, none⟩ a5).setCell ⟨G, k * 13 + 10, none⟩ a6) ∧ TMine (((((((w4.setCell ⟨G, k * 13 + 4, none⟩ a0).setCell ⟨G, k * 13 + 5, none⟩ a1).setCell ⟨G, k * 13 + 6, none⟩ a2).setCell ⟨G, k * 13 + 7, none⟩ a3).setCell ⟨G, k * 13 + 8, none⟩ a4).setCell ⟨G, k * 13 + 9, none⟩ a5).setCell ⟨G, k * 13 + 10, none⟩ a6) B3 x.ts) := by
        intro a0 a1 a2 a3 a4 a5 a6
        refine ⟨?_, ((((((Q4.out.2.off1 _ (by omega)).off1 _ (by omega)).off1 _ (by omega)).off1 _ (by omega)).off1 _ (by omega)).off1 _ (by omega)).off1 _ (by omega)⟩
        exact ((((((Q4.out.1.set HUP.out hlo hhi 4 (by omega) (by omega) (by omega) (by omega) _).set HUP.out hlo hhi 5 (by omega) (by omega) (by omega) (by omega) _).set HUP.out hlo hhi 6 (by omega) (by omega) (by omega) (by omega) _).set HUP.out hlo hhi 7 (by omega) (by omega) (by omega) (by omega) _).set HUP.out hlo hhi 8 (by omega) (by omega) (by omega) (by omega) _).set HUP.out hlo hhi 9 (by omega) (by omega) (by omega) (by omega) _).set HUP.out hlo hhi 10 (by omega) (by omega) (by omega) (by omega) _
      have y11 := Q4.out.1.c11
      clear Q4
      have CS : Hid (∀ X, MS w lo hi G n k l (.slice (some ⟨B1, 0, none⟩) hn hn) (.slice (some ⟨B2, 0, none⟩) bn bn) (.slice (some ⟨B3, 0, none⟩) tn tn) X → TMine X B3 x.ts → Calls Tryz.prog 109 #[.slice (some ⟨B3, 0, none⟩) tn tn, .int .i64 ((m : Int) + 1 + 1 + 1 + 1 + 1 + 1 + 1)] X fun e w' => e = .returned (.int .i64 ((m : Int) + 7 + (tn : Int))) ∧ MS w lo hi G n k l (.slice (some ⟨B1, 0, none⟩) hn hn) (.slice (some ⟨B2, 0, none⟩) bn bn) (.slice (some ⟨B3, 0, none⟩) tn tn) w') := fun X hM hT => by
        have hrm := hT.room
        rw [etn.out] at hrm
        have := markTS_row X B3 tn tn (m + 7) f3 (by omega) (by omega) hT.lt hrm
        rw [show (((m + 7 : Nat)) : Int) = (m : Int) + 1 + 1 + 1 + 1 + 1 + 1 + 1 from by omega, show (((m + 7 + tn : Nat)) : Int) = (m : Int) + 7 + (tn : Int) from by omega] at this
        exact this.mono (fun e w' h => ⟨h.1, hM.apart h.2.1 h.2.2 (by omega) hB3 (by omega) HNX.out⟩)
      go_wp2_with fail
      refine (CS.out _ (SETS.out _ _ _ _ _ _ _).1 (SETS.out _ _ _ _ _ _ _).2).mono ?_
      rintro e w6 ⟨rfl, Q6⟩
      clear SETS CS y11
      obtain ⟨p, hp⟩ : ∃ p : Nat, Hid (m + 7 + tn = p) := ⟨_, rfl⟩
      have ep : (m : Int) + 7 + (tn : Int) = (p : Int) := by have := hp.out; omega
      have hple : p ≤ c + 9 + 2 * hn + bn + tn := by have := hp.out; omega
      have hpge : 1 ≤ p := by have := hp.out; omega
      rw [ep]
      clear ep hp
      obtain ⟨⟨u12, g12⟩, fz12⟩ := Q6.fr.room (k * 13 + 12) (by omega)
      have FIN : Hid (∀ u, MS w lo hi G n k l (.slice (some ⟨B1, 0, none⟩) hn hn) (.slice (some ⟨B2, 0, none⟩) bn bn) (.slice (some ⟨B3, 0, none⟩) tn tn) (w6.setCell ⟨G, k * 13 + 12, none⟩ u)) := fun u => Q6.set HUP.out hlo hhi 12 (by omega) (by omega) (by omega) (by omega) u
      have t1 : IntKind.i64.wrap ((p : Int) + 1) = (p : Int) + 1 := by unfold IntKind.wrap; simp [IntKind.signed, IntKind.bits]; omega
      clear Q6
      go_wp2_with fail
      go_roundw
      case rel => exact ⟨k + 1, p + 1, by omega, by go_num, by go_num, by omega, by omega, (FIN.out _).fr, (FIN.out _).bl, (FIN.out _).ab⟩
      case measure => simp [intOf]; omega
    · have e : k = n := by omega
      subst e
      go_wp2_with fail
      go_ret
      exact ⟨⟨c, rfl, h1, h2⟩, hb, hab⟩
end Go.Proofs.YtelbddgdaibolaaGreatDoor
/-
  A whole store that is marked: what lies outside of it is as it was.
-/
namespace Go.Proofs.YtelbddgdaibolaaGreatDoor
open Go.ChangeShapes Go.WideShapes Go.ChangeAt Go.RowKit Go.Sort
theorem Above.mono {h1 h2 : Nat} {w w' : World} (h : Above h1 w w') (hh : h1 ≤ h2) : Above h2 w w' := ⟨h.size, fun b o hb hn => h.cell b o (by omega) hn, fun b o hb hn => h.frozen b o (by omega) hn⟩
theorem EntOwn.above {W W' : World} {hi : Nat} {x : Ent} {r : EntR} (h : EntOwn W x r) (k : Above hi W W') (hh : hi ≤ blk r.ha) : EntOwn W' x r := by
  obtain ⟨B1, B2, B3, rfl, h1, h2, h3, h4, h5⟩ := h
  have q : hi ≤ B1 := hh
  refine ⟨B1, B2, B3, rfl, ⟨fun i r hr => ?_, fun o => ?_, ?_⟩, ⟨fun i r hr => ?_, fun o ho => ?_, ?_⟩, ⟨fun i r hr => ?_, fun o ho => ?_, ?_⟩, h4, h5⟩
  · rw [k.cell B1 _ q h1.lt, k.cell B1 _ q h1.lt]; exact h1.at0 i r hr
  · rw [k.frozen B1 o q h1.lt]; exact h1.free o
  · exact Nat.lt_of_lt_of_le h1.lt k.size
  · rw [k.cell B2 _ (by omega) h2.lt]; exact h2.at0 i r hr
  · rw [k.frozen B2 o (by omega) h2.lt]; exact h2.free o ho
  · exact Nat.lt_of_lt_of_le h2.lt k.size
  · rw [k.cell B3 _ (by omega) h3.lt]; exact h3.at0 i r hr
  · rw [k.frozen B3 o (by omega) h3.lt]; exact h3.free o ho
  · exact Nat.lt_of_lt_of_le h3.lt k.size
theorem EntsMine.above {W W' : World} {hi G : Nat} {l : List (Ent × EntR)} (h : EntsMine W G l) (k : Above hi W W') (hh : hi ≤ G) : EntsMine W' G l :=
  ⟨fun i q hq j hj => by rw [k.cell G _ hh h.lt]; exact h.cell i q hq j hj, fun o => by rw [k.frozen G o hh h.lt]; exact h.free o, Nat.lt_of_lt_of_le h.lt k.size, fun q hq => (h.own q hq).above k (Nat.le_trans hh (Nat.le_of_lt (h.up q hq))), h.up, h.pw⟩
theorem EntsMine.room {W : World} {G : Nat} {l : List (Ent × EntR)} (h : EntsMine W G l) : HRoom W G (l.length * 13) := fun j hj => by
  have hm : j / 13 * 13 + j % 13 = j := by omega
  obtain ⟨q, hq⟩ : ∃ r, l[j / 13]? = some r := ⟨l[j / 13]'(by omega), List.getElem?_eq_getElem _⟩
  have c := h.cell (j / 13) q hq (j % 13) (by omega)
  rw [hm] at c
  exact ⟨⟨_, c.trans (List.getElem?_eq_getElem (by rw [show (entW q.1 q.2).length = 13 from rfl]; omega))⟩, h.free j⟩
set_option maxHeartbeats 4000000 in
theorem markSto_weak (w0 w : World) (bu gu : Int) (tl kl : List (Ent × EntR)) (G1 G2 lo hi tk kk : Nat) (hf : StoFit tl kl) (h : StoNew w0 G1 G2 tl kl) (hw : Below w0.heap.size w0 w) (hlo : lo ≤ G1) (hhi : hi = w0.heap.size) :
    Calls Tryz.prog 37 #[.agg #[.int .i64 bu, .int .i64 gu, .slice (some ⟨G1, 0, none⟩) tl.length tk, .slice (some ⟨G2, 0, none⟩) kl.length kk], .int .i64 1] w fun e w' => (∃ c1 : Nat, e = .returned (.int .i64 (c1 : Int)) ∧ 1 ≤ c1 ∧ c1 ≤ 10000000000000) ∧ Below lo w w' ∧ Above hi w w' := by
  obtain ⟨a, b, e1, e2, m0⟩ := h
  have m := m0.keep hw
  have hw0 := hw.size
  have hG0 := m0.k.lt
  have l1 := len_map e1
  have l2 := len_map e2
  rw [← l1, ← l2]
  have n1 : a.length ≤ 1048576 := by rw [l1]; exact hf.tn
  have n2 : b.length ≤ 1048576 := by rw [l2]; exact hf.kn
  have F1 := fit_map e1 hf.tf
  have F2 := fit_map e2 hf.kf
  have hG1 := m.t.lt
  have hG2 := m.k.lt
  have hGG := m.lt
  obtain ⟨W, hW⟩ : ∃ W, W = w.alloc (.cells #[.int .i64 bu, .int .i64 gu, .slice (some ⟨G1, 0, none⟩) a.length tk, .slice (some ⟨G2, 0, none⟩) b.length kk] 26) := ⟨_, rfl⟩
  have HW : Hid (W = w.alloc (.cells #[.int .i64 bu, .int .i64 gu, .slice (some ⟨G1, 0, none⟩) a.length tk, .slice (some ⟨G2, 0, none⟩) b.length kk] 26)) := hW
  have bW : Below w.heap.size w W := by rw [hW]; exact (Below.refl _ _).alloc (Nat.le_refl _) _
  have sW : S4 W w.heap.size (.int .i64 bu) (.int .i64 gu) (.slice (some ⟨G1, 0, none⟩) a.length tk) (.slice (some ⟨G2, 0, none⟩) b.length kk) := by rw [hW]; exact S4.new w _ _ _ _ _
  have mW := m.keep bW
  have C1 : Hid (Calls Tryz.prog 93 #[.slice (some ⟨G1, 0, none⟩) a.length tk, .int .i64 ((1 : Nat) : Int)] W fun e w' => (∃ c1 : Nat, e = .returned (.int .i64 (c1 : Int)) ∧ 1 ≤ c1 ∧ c1 ≤ 1 + a.length * 4194314) ∧ Below lo W w' ∧ Above G2 W w') := markES_weak W lo G2 G1 tk 1 a n1 F1 mW.t mW.t.room hlo hGG (by have := bW.size; omega) m.up (by omega) (by omega)
  have HX : Hid (∀ X c, Below lo W X → Above G2 W X → 1 ≤ c → c ≤ 1 + a.length * 4194314 → Calls Tryz.prog 93 #[.slice (some ⟨G2, 0, none⟩) b.length kk, .int .i64 ((c : Nat) : Int)] X fun e w' => (∃ c1 : Nat, e = .returned (.int .i64 (c1 : Int)) ∧ 1 ≤ c1 ∧ c1 ≤ c + b.length * 4194314) ∧ Below lo X w' ∧ Above hi X w') := fun X c hb ha hc1 hc2 => by
    have mk := mW.k.above ha (Nat.le_refl _)
    have hs := ha.size
    have hws := bW.size
    exact markES_weak X lo hi G2 kk c b n2 F2 mk mk.room (by omega) (by omega) (by omega) (fun q hq => by have := (mW.k.own q hq).lt; have := (m0.k.own q hq).lt; omega) hc1 (by omega)
  have K3 : Hid (∀ X, Above G2 W X → X.cell? ⟨w.heap.size, 3, none⟩ = some (.slice (some ⟨G2, 0, none⟩) b.length kk)) := fun X ha => by
    rw [ha.cell w.heap.size 3 (by omega) sW.lt]; exact sW.c3
  have HB : Hid (Below lo w W ∧ Above hi w W) := ⟨bW.mono (by omega), .below bW⟩
  have HLE : Hid (lo ≤ w.heap.size ∧ G2 ≤ hi) := ⟨by omega, by omega⟩
  clear hW bW sW mW F1 F2 m m0 hw e1 e2 l1 l2 hf
  generalize a.length = an at *
  generalize b.length = bn at *
  have C1' : Hid (Calls Tryz.prog 93 #[.slice (some ⟨G1, 0, none⟩) an tk, .int .i64 1] W fun e w' => (∃ c1 : Nat, e = .returned (.int .i64 (c1 : Int)) ∧ 1 ≤ c1 ∧ c1 ≤ 1 + an * 4194314) ∧ Below lo W w' ∧ Above G2 W w') := C1.out
  clear C1
  go_enter Tryz.func37, Tryz.ntmps37
  go_wp2_with fail
  rw [← HW.out]
  refine C1'.out.mono ?_
  rintro e w1 ⟨⟨c1, rfl, hc1, hc2⟩, hb1, ha1⟩
  have q3 := K3.out w1 ha1
  have HC2 := HX.out w1 c1 hb1 ha1 hc1 hc2
  have HB1 : Hid (Below lo w w1 ∧ Above hi w w1) := ⟨HB.out.1.trans hb1, HB.out.2.trans (ha1.mono HLE.out.2)⟩
  clear K3 HX C1' HW HB hb1 ha1
  go_wp2_with fail
  refine HC2.mono ?_
  rintro e w2 ⟨⟨c2, rfl, hc3, hc4⟩, hb2, ha2⟩
  have HB2 : Hid (Below lo w w2 ∧ Above hi w w2) := ⟨HB1.out.1.trans hb2, HB1.out.2.trans ha2⟩
  clear HC2 hb2 ha2 HB1 q3
  go_wp2_with fail
  go_ret
  exact ⟨⟨c2, rfl, hc3, by omega⟩, HB2.out.1, HB2.out.2⟩
end Go.Proofs.YtelbddgdaibolaaGreatDoor
/-
  An entry whose lists are its own: marked, held.
-/
namespace Go.Proofs.YtelbddgdaibolaaGreatDoor
open Go.ChangeShapes Go.WideShapes Go.ChangeAt Go.RowKit Go.Sort
def BLV (w : World) (v : Value) (l : List UInt8) : Prop :=
  (v = .slice none 0 0 ∧ l = []) ∨ ∃ g cap, v = .slice (some ⟨g, 0, none⟩) l.length cap ∧ g < w.heap.size ∧ BAt w g 0 l ∧ ∀ o, w.frozen? ⟨g, o, none⟩ = false
theorem RowB.lv {w : World} {base : Nat} {v : Value} {l : List UInt8} (h : RowB w base v l) : BLV w v l ∧ ∀ b, v.ownBlock = some b → base ≤ b := by
  have h0 := h
  obtain ⟨_, h1 | ⟨g, c, cur, rfl, hg, hh, _⟩⟩ := h
  · have e : l = [] := List.eq_nil_of_length_eq_zero h1.2
    exact ⟨.inl ⟨h1.1, e⟩, fun b hb => by rw [h1.1] at hb; cases hb⟩
  · refine ⟨.inr ⟨g, c, rfl, (Array.getElem?_eq_some_iff.1 hh).1, fun i q hq => ?_, fun o => ?_⟩, fun b hb => ?_⟩
    · have hi := (List.getElem?_eq_some_iff.1 hq).1
      have c1 := World.ownsRow.cellAt h0 i (by omega)
      rw [Nat.zero_add, c1]
      unfold cBytes
      rw [List.getElem?_map, hq]
      rfl
    · simp [World.frozen?, hh]
    · simp only [Value.ownBlock, Option.some.injEq] at hb; omega
theorem RowT.lv {w : World} {base : Nat} {v : Value} {l : List ByteArray} (h : RowT w base v l) : TLV w v l ∧ ∀ b, v.ownBlock = some b → base ≤ b := by
  have h0 := h
  obtain ⟨_, h1 | ⟨g, c, cur, rfl, hg, hh, _⟩⟩ := h
  · have e : l = [] := List.eq_nil_of_length_eq_zero h1.2
    exact ⟨.inl ⟨h1.1, e⟩, fun b hb => by rw [h1.1] at hb; cases hb⟩
  · refine ⟨.inr ⟨g, c, rfl, (Array.getElem?_eq_some_iff.1 hh).1, fun i q hq => ?_, fun o => ?_⟩, fun b hb => ?_⟩
    · have hi := (List.getElem?_eq_some_iff.1 hq).1
      have c1 := World.ownsRow.cellAt h0 i (by omega)
      rw [Nat.zero_add, c1]
      unfold cTexts
      rw [List.getElem?_map, hq]
      rfl
    · simp [World.frozen?, hh]
    · simp only [Value.ownBlock, Option.some.injEq] at hb; omega
theorem RowH.lv {w : World} {base : Nat} {v : Value} {l : List Hdr} (h : RowH w base v l) : HLV w v l ∧ ∀ b, v.ownBlock = some b → base ≤ b := OwnH.lv h
theorem BLV.below {w w' : World} {v : Value} {l : List UInt8} (h : BLV w v l) (hb : Below w.heap.size w w') : BLV w' v l := by
  rcases h with h | ⟨g, c, e, hg, hi, hf⟩
  · exact .inl h
  · exact .inr ⟨g, c, e, Nat.lt_of_lt_of_le hg hb.size, hi.keep hb, fun o => by rw [hb.frozen (p := ⟨g, o, none⟩) hg, hf]⟩
theorem BLV.av {w w' : World} {v v1 : Value} {l : List UInt8} (h : BLV w v1 l) (k : HAV v w w') (hne : ∀ b, v1.ownBlock = some b → v.ownBlock ≠ some b) : BLV w' v1 l := by
  rcases h with h | ⟨g, c, rfl, hg, hi, hf⟩
  · exact .inl h
  · have hn := hne g rfl
    exact .inr ⟨g, c, rfl, Nat.lt_of_lt_of_le hg k.size, fun i r hr => by rw [k.cell g _ hg hn]; exact hi i r hr, fun o => by rw [k.frozen g o hg hn, hf]⟩
theorem MarkB.hav {w w' : World} {v u : Value} {k n : Nat} (h : MarkB w v k n) (ha : HAV u w w') (hne : ∀ b, v.ownBlock = some b → u.ownBlock ≠ some b) : MarkB w' v k n := by
  rcases h with h | ⟨g, c, rfl, hg, hc⟩
  · exact .inl h
  · exact .inr ⟨g, c, rfl, Nat.lt_of_lt_of_le hg ha.size, fun i hi => by rw [ha.cell g i hg (hne g rfl)]; exact hc i hi⟩
/-! ### from any number on -/
theorem markHeaderS_lvk (w : World) (v : Value) (l : List Hdr) (k : Nat) (hk0 : 1 ≤ k) (hk : k ≤ 100000000000000) (hl : l.length ≤ 1048576) (h : HLV w v l) (base : Nat) (hb : ∀ b, v.ownBlock = some b → base ≤ b) (hbs : base ≤ w.heap.size) :
    Calls Tryz.prog 107 #[v, .int .i64 (k : Int)] w fun e w' => e = .returned (.int .i64 ((k + 2 * l.length : Nat) : Int)) ∧ HLV w' v (mkHL k l.length) ∧ HAV v w w' ∧ Below base w w' := by
  rcases h with ⟨rfl, rfl⟩ | ⟨g, c, rfl, hg, hi, hf⟩
  · exact (markHeaderS_nil w none 0 k).mono fun _ _ ⟨h1, h2⟩ => ⟨h1, .inl ⟨rfl, rfl⟩, .below h2, h2.mono hbs⟩
  · refine (markHeaderS_any w g 0 c l.length k l rfl hl hk0 hk hi hf hg).mono ?_
    rintro e w' ⟨h1, h2, h3, h4, h5⟩
    have hne : ∀ b, (Value.slice (some ⟨g, 0, none⟩) l.length c).ownBlock ≠ some b → b ≠ g := fun b hb e => hb (by subst e; rfl)
    refine ⟨h1, ?_, ⟨h3.size, fun b o hb hn => h3.cell b o hb (hne b hn), fun b o hb hn => h3.frozen b o hb (hne b hn)⟩, h4.mono (hb g rfl)⟩
    exact .inr ⟨g, c, by rw [mkHL_len], Nat.lt_of_lt_of_le hg h3.size, h2, h5⟩
theorem markStringS_lvk (w : World) (v : Value) (l : List ByteArray) (k : Nat) (hk0 : 1 ≤ k) (hk : k ≤ 100000000000000) (hl : l.length ≤ 1048576) (h : TLV w v l) (base : Nat) (hb : ∀ b, v.ownBlock = some b → base ≤ b) (hbs : base ≤ w.heap.size) :
    Calls Tryz.prog 109 #[v, .int .i64 (k : Int)] w fun e w' => e = .returned (.int .i64 ((k + l.length : Nat) : Int)) ∧ TLV w' v (mkTL k l.length) ∧ HAV v w w' ∧ Below base w w' := by
  rcases h with ⟨rfl, rfl⟩ | ⟨g, c, rfl, hg, hi, hf⟩
  · exact (markStringS_nil w none 0 k).mono fun _ _ ⟨h1, h2⟩ => ⟨h1, .inl ⟨rfl, rfl⟩, .below h2, h2.mono hbs⟩
  · refine (markStringS_any w g 0 c l.length k l rfl hl hk0 hk hi hf hg).mono ?_
    rintro e w' ⟨h1, h2, h3, h4, h5⟩
    have hne : ∀ b, (Value.slice (some ⟨g, 0, none⟩) l.length c).ownBlock ≠ some b → b ≠ g := fun b hb e => hb (by subst e; rfl)
    refine ⟨h1, ?_, ⟨h3.size, fun b o hb hn => h3.cell b o hb (hne b hn), fun b o hb hn => h3.frozen b o hb (hne b hn)⟩, h4.mono (hb g rfl)⟩
    exact .inr ⟨g, c, by rw [mkTL_len], Nat.lt_of_lt_of_le hg h3.size, h2, h5⟩
set_option maxHeartbeats 1000000 in
theorem markByteS_nil (w : World) (a : Option Addr) (c k : Nat) :
    Calls Tryz.prog 108 #[.slice a 0 c, .int .i64 (k : Int)] w fun e w' => e = .returned (.int .i64 (k : Int)) ∧ Below w.heap.size w w' := by
  go_enter Tryz.func108, Tryz.ntmps108
  go_wp2_with fail
  go_loop [1, 5] (fun x i => x = .int .i64 (k : Int) ∧ i = .int .i64 0) (fun _ _ => 0)
  case atStart => exact ⟨rfl, rfl⟩
  case round =>
    obtain ⟨rfl, rfl⟩ := hrel
    go_wp2_with fail
    go_ret
    exact ⟨rfl, Below.refl _ _⟩
set_option maxHeartbeats 1000000 in
theorem heldByteS_nil (w : World) (a : Option Addr) (c k : Nat) :
    Calls Tryz.prog 146 #[.slice a 0 c, .int .i64 (k : Int)] w fun e w' => e = .returned (.int .i64 (k : Int)) ∧ Below w.heap.size w w' := by
  go_enter Tryz.func146, Tryz.ntmps146
  go_wp2_with fail
  go_loop [1, 5] (fun x i => x = .int .i64 (k : Int) ∧ i = .int .i64 0) (fun _ _ => 0)
  case atStart => exact ⟨rfl, rfl⟩
  case round =>
    obtain ⟨rfl, rfl⟩ := hrel
    go_wp2_with fail
    go_ret
    exact ⟨rfl, Below.refl _ _⟩
theorem markByteS_lvk (w : World) (v : Value) (l : List UInt8) (k : Nat) (hk : k ≤ 100000000000000) (hl : l.length ≤ 1048576) (h : BLV w v l) (base : Nat) (hb : ∀ b, v.ownBlock = some b → base ≤ b) (hbs : base ≤ w.heap.size) :
    Calls Tryz.prog 108 #[v, .int .i64 (k : Int)] w fun e w' => e = .returned (.int .i64 ((k + l.length : Nat) : Int)) ∧ MarkB w' v k l.length ∧ HAV v w w' ∧ Below base w w' := by
  rcases h with ⟨rfl, rfl⟩ | ⟨g, c, rfl, hg, hi, hf⟩
  · exact (markByteS_nil w none 0 k).mono fun _ _ ⟨h1, h2⟩ => ⟨h1, .inl rfl, .below h2, h2.mono hbs⟩
  · refine (markByteS_row w g l.length c k base hl hk (hb g rfl) hg ?_).mono ?_
    · intro j hj
      have := hi j l[j] (List.getElem?_eq_getElem hj)
      rw [Nat.zero_add] at this
      exact ⟨⟨_, this⟩, hf j⟩
    · rintro e w' ⟨h1, h2, h3, h4⟩
      exact ⟨h1, h2, ⟨Nat.le_of_eq h3.size.symm, h3.cell, fun b o _ _ => h3.frozen b o⟩, h4⟩
theorem heldHeaderS_lvk (w : World) (v : Value) (n k : Nat) (hk0 : 1 ≤ k) (hk : k ≤ 100000000000000) (hl : n ≤ 1048576) (h : HLV w v (mkHL k n)) :
    Calls Tryz.prog 145 #[v, .int .i64 (k : Int)] w fun e w' => e = .returned (.int .i64 ((k + 2 * n : Nat) : Int)) ∧ Below w.heap.size w w' := by
  rcases h with ⟨rfl, h0⟩ | ⟨g, c, rfl, _, hi, _⟩
  · have e := congrArg List.length h0
    rw [mkHL_len] at e
    simp at e
    subst e
    exact heldHeaderS_nil w none 0 k
  · rw [mkHL_len]
    exact heldHeaderS_any w g 0 c n k hl hk0 hk hi
theorem heldStringS_lvk (w : World) (v : Value) (n k : Nat) (hk0 : 1 ≤ k) (hk : k ≤ 100000000000000) (hl : n ≤ 1048576) (h : TLV w v (mkTL k n)) :
    Calls Tryz.prog 110 #[v, .int .i64 (k : Int)] w fun e w' => e = .returned (.int .i64 ((k + n : Nat) : Int)) ∧ Below w.heap.size w w' := by
  rcases h with ⟨rfl, h0⟩ | ⟨g, c, rfl, _, hi, _⟩
  · have e := congrArg List.length h0
    rw [mkTL_len] at e
    simp at e
    subst e
    exact heldStringS_nil w none 0 k
  · rw [mkTL_len]
    exact heldStringS_any w g 0 c n k hl hk0 hk hi
theorem heldByteS_lvk (w : World) (a : Option Addr) (n c k : Nat) (hk : k ≤ 100000000000000) (hl : n ≤ 1048576) (h : MarkB w (.slice a n c) k n) :
    Calls Tryz.prog 146 #[.slice a n c, .int .i64 (k : Int)] w fun e w' => e = .returned (.int .i64 ((k + n : Nat) : Int)) ∧ Below w.heap.size w w' := by
  rcases h with rfl | ⟨g, c', e, _, hc⟩
  · exact heldByteS_nil w a c k
  · simp only [Value.slice.injEq] at e
    obtain ⟨rfl, _, rfl⟩ := e
    exact (heldByteS_row w g n c k hl hk hc).mono fun _ _ ⟨h1, h2⟩ => ⟨h1, h2 ▸ Below.refl _ _⟩
/-! ### an entry -/
structure EntLV (w : World) (base : Nat) (x : Ent) (r : EntR) : Prop where
  h : HLV w (.slice r.ha x.hs.length r.hc) x.hs
  b : BLV w (.slice r.ba x.bl.length r.bc) x.bl
  t : TLV w (.slice r.ta x.ts.length r.tc) x.ts
  gh : ∀ g, (Value.slice r.ha x.hs.length r.hc).ownBlock = some g → base ≤ g
  gb : ∀ g, (Value.slice r.ba x.bl.length r.bc).ownBlock = some g → base ≤ g
  gt : ∀ g, (Value.slice r.ta x.ts.length r.tc).ownBlock = some g → base ≤ g
  n1 : ∀ g, (Value.slice r.ha x.hs.length r.hc).ownBlock = some g → (Value.slice r.ba x.bl.length r.bc).ownBlock ≠ some g
  n2 : ∀ g, (Value.slice r.ha x.hs.length r.hc).ownBlock = some g → (Value.slice r.ta x.ts.length r.tc).ownBlock ≠ some g
  n3 : ∀ g, (Value.slice r.ba x.bl.length r.bc).ownBlock = some g → (Value.slice r.ta x.ts.length r.tc).ownBlock ≠ some g
  hc : x.hs.length ≤ r.hc
  bc : x.bl.length ≤ r.bc
  tc : x.ts.length ≤ r.tc
def Flat (v : Value) : Prop := ∃ n c, v = .slice none n c ∨ ∃ g, v = .slice (some ⟨g, 0, none⟩) n c
theorem flat_ne {a b : Option Addr} {n c m d : Nat} (ha : Flat (.slice a n c)) (hb : Flat (.slice b m d)) (h : a = none ∨ a ≠ b) : ∀ g, (Value.slice a n c).ownBlock = some g → (Value.slice b m d).ownBlock ≠ some g := by
  intro g h1 h2
  obtain ⟨_, _, e | ⟨g1, e⟩⟩ := ha
  · simp only [Value.slice.injEq] at e
    obtain ⟨rfl, _⟩ := e
    cases h1
  · obtain ⟨_, _, f | ⟨g2, f⟩⟩ := hb
    · simp only [Value.slice.injEq] at f
      obtain ⟨rfl, _⟩ := f
      cases h2
    · simp only [Value.slice.injEq] at e f
      obtain ⟨rfl, _⟩ := e
      obtain ⟨rfl, _⟩ := f
      simp only [Value.ownBlock, Option.some.injEq] at h1 h2
      subst h1 h2
      rcases h with h | h
      · cases h
      · exact h rfl
theorem HLV.flat {w : World} {v : Value} {l : List Hdr} (h : HLV w v l) : Flat v := by
  rcases h with ⟨rfl, _⟩ | ⟨g, c, rfl, _⟩
  · exact ⟨_, _, .inl rfl⟩
  · exact ⟨_, _, .inr ⟨g, rfl⟩⟩
theorem BLV.flat {w : World} {v : Value} {l : List UInt8} (h : BLV w v l) : Flat v := by
  rcases h with ⟨rfl, _⟩ | ⟨g, c, rfl, _⟩
  · exact ⟨_, _, .inl rfl⟩
  · exact ⟨_, _, .inr ⟨g, rfl⟩⟩
theorem TLV.flat {w : World} {v : Value} {l : List ByteArray} (h : TLV w v l) : Flat v := by
  rcases h with ⟨rfl, _⟩ | ⟨g, c, rfl, _⟩
  · exact ⟨_, _, .inl rfl⟩
  · exact ⟨_, _, .inr ⟨g, rfl⟩⟩
theorem EntRow.lv {w : World} {base : Nat} {x : Ent} {r : EntR} (h : EntRow w base x r) : EntLV w base x r := by
  obtain ⟨h1, g1⟩ := RowH.lv h.h
  obtain ⟨h2, g2⟩ := RowB.lv h.b
  obtain ⟨h3, g3⟩ := RowT.lv h.t
  have i := h.in
  exact ⟨h1, h2, h3, g1, g2, g3, flat_ne h1.flat h2.flat h.n1, flat_ne h1.flat h3.flat h.n2, flat_ne h2.flat h3.flat h.n3, i.hc, i.bc, i.tc⟩
theorem EntLV.below {w w' : World} {base : Nat} {x : Ent} {r : EntR} (h : EntLV w base x r) (hb : Below w.heap.size w w') : EntLV w' base x r :=
  ⟨h.h.below hb, h.b.below hb, h.t.below hb, h.gh, h.gb, h.gt, h.n1, h.n2, h.n3, h.hc, h.bc, h.tc⟩
theorem EntLV.above {w w' : World} {base hi : Nat} {x : Ent} {r : EntR} (h : EntLV w base x r) (k : Above hi w w') (hh : hi ≤ base) : EntLV w' base x r := by
  refine ⟨?_, ?_, ?_, h.gh, h.gb, h.gt, h.n1, h.n2, h.n3, h.hc, h.bc, h.tc⟩
  · have g0 := h.gh
    rcases h.h with h | ⟨g, c, e, hg, hi, hf⟩
    · exact .inl h
    · have hge : base ≤ g := g0 g (by rw [e]; rfl)
      exact .inr ⟨g, c, e, Nat.lt_of_lt_of_le hg k.size, fun i r hr => by rw [k.cell g _ (by omega) hg, k.cell g _ (by omega) hg]; exact hi i r hr, fun o => by rw [k.frozen g o (by omega) hg, hf]⟩
  · have g0 := h.gb
    rcases h.b with h | ⟨g, c, e, hg, hi, hf⟩
    · exact .inl h
    · have hge : base ≤ g := g0 g (by rw [e]; rfl)
      exact .inr ⟨g, c, e, Nat.lt_of_lt_of_le hg k.size, fun i r hr => by rw [k.cell g _ (by omega) hg]; exact hi i r hr, fun o => by rw [k.frozen g o (by omega) hg, hf]⟩
  · have g0 := h.gt
    rcases h.t with h | ⟨g, c, e, hg, hi, hf⟩
    · exact .inl h
    · have hge : base ≤ g := g0 g (by rw [e]; rfl)
      exact .inr ⟨g, c, e, Nat.lt_of_lt_of_le hg k.size, fun i r hr => by rw [k.cell g _ (by omega) hg]; exact hi i r hr, fun o => by rw [k.frozen g o (by omega) hg, hf]⟩
theorem EntLV.in {w : World} {base : Nat} {x : Ent} {r : EntR} (h : EntLV w base x r) : EntIn w x r := by
  refine ⟨?_, ?_, ?_, h.hc, h.bc, h.tc⟩
  · rcases h.h with ⟨_, e⟩ | ⟨g, c, e, hg, hi, hf⟩
    · exact .inl e
    · simp only [Value.slice.injEq] at e
      exact .inr ⟨g, 0, e.1, hi⟩
  · rcases h.b with ⟨_, e⟩ | ⟨g, c, e, hg, hi, hf⟩
    · exact .inl e
    · simp only [Value.slice.injEq] at e
      exact .inr ⟨g, 0, e.1, hi⟩
  · rcases h.t with ⟨_, e⟩ | ⟨g, c, e, hg, hi, hf⟩
    · exact .inl e
    · simp only [Value.slice.injEq] at e
      exact .inr ⟨g, 0, e.1, hi⟩
/-- What an entry's lists hold once they were marked. -/
structure EntHeld (w : World) (x : Ent) (r : EntR) : Prop where
  h : HLV w (.slice r.ha x.hs.length r.hc) (mkHL 1 x.hs.length)
  b : MarkB w (.slice r.ba x.bl.length r.bc) (1 + 2 * x.hs.length) x.bl.length
  t : TLV w (.slice r.ta x.ts.length r.tc) (mkTL (1 + 2 * x.hs.length + x.bl.length) x.ts.length)
theorem EntHeld.below {w w' : World} {x : Ent} {r : EntR} (h : EntHeld w x r) (hb : Below w.heap.size w w') : EntHeld w' x r := ⟨h.h.below hb, h.b.keep hb, h.t.below hb⟩
theorem HAV.above {v : Value} {hi : Nat} {w w' : World} (h : HAV v w w') (hv : ∀ g, v.ownBlock = some g → g < hi) : Above hi w w' :=
  ⟨h.size, fun b o h1 h2 => h.cell b o h2 (fun e => by have := hv b e; omega), fun b o h1 h2 => h.frozen b o h2 (fun e => by have := hv b e; omega)⟩
theorem BLV.block_lt {w : World} {v : Value} {l : List UInt8} (h : BLV w v l) : ∀ b, v.ownBlock = some b → b < w.heap.size := by
  rcases h with ⟨rfl, _⟩ | ⟨g, c, rfl, hg, _⟩
  · intro b hb; cases hb
  · intro b hb; simp only [Value.ownBlock, Option.some.injEq] at hb; omega
structure EntLt (hi : Nat) (x : Ent) (r : EntR) : Prop where
  h : ∀ g, (Value.slice r.ha x.hs.length r.hc).ownBlock = some g → g < hi
  b : ∀ g, (Value.slice r.ba x.bl.length r.bc).ownBlock = some g → g < hi
  t : ∀ g, (Value.slice r.ta x.ts.length r.tc).ownBlock = some g → g < hi
theorem EntLV.lts {w : World} {base : Nat} {x : Ent} {r : EntR} (h : EntLV w base x r) : EntLt w.heap.size x r := ⟨HLV.block_lt h.h, h.b.block_lt, h.t.block_lt⟩
theorem markLists (W : World) (base hi : Nat) (x : Ent) (r : EntR) (f1 : x.hs.length ≤ 1048576) (f2 : x.bl.length ≤ 1048576) (f3 : x.ts.length ≤ 1048576) (hw : base ≤ W.heap.size) (h : EntLV W base x r) (h0 : EntLt hi x r) :
    Calls Tryz.prog 107 #[.slice r.ha x.hs.length r.hc, .int .i64 1] W fun e w1 => e = .returned (.int .i64 ((1 + 2 * x.hs.length : Nat) : Int)) ∧ (Below base W w1 ∧ Above hi W w1) ∧ 
    Calls Tryz.prog 108 #[.slice r.ba x.bl.length r.bc, .int .i64 ((1 + 2 * x.hs.length : Nat) : Int)] w1 fun e w2 => e = .returned (.int .i64 ((1 + 2 * x.hs.length + x.bl.length : Nat) : Int)) ∧ (Below base w1 w2 ∧ Above hi w1 w2) ∧ 
    Calls Tryz.prog 109 #[.slice r.ta x.ts.length r.tc, .int .i64 ((1 + 2 * x.hs.length + x.bl.length : Nat) : Int)] w2 fun e w3 => e = .returned (.int .i64 ((1 + 2 * x.hs.length + x.bl.length + x.ts.length : Nat) : Int)) ∧ (Below base w2 w3 ∧ Above hi w2 w3) ∧ EntHeld w3 x r := by
  have ne : ∀ {u v : Value}, (∀ g, u.ownBlock = some g → v.ownBlock ≠ some g) → ∀ g, v.ownBlock = some g → u.ownBlock ≠ some g := fun hh g h1 h2 => hh g h2 h1
  refine (markHeaderS_lvk W _ x.hs 1 (by omega) (by omega) f1 h.h base h.gh (by omega)).mono ?_
  rintro e w1 ⟨rfl, a1, v1, b1⟩
  refine ⟨rfl, ⟨b1, v1.above h0.h⟩, ?_⟩
  have s1 := b1.size
  refine (markByteS_lvk w1 _ x.bl _ (by omega) f2 (h.b.av v1 (ne h.n1)) base h.gb (by omega)).mono ?_
  rintro e w2 ⟨rfl, a2, v2, b2⟩
  refine ⟨rfl, ⟨b2, v2.above h0.b⟩, ?_⟩
  have s2 := b2.size
  refine (markStringS_lvk w2 _ x.ts _ (by omega) (by omega) f3 ((h.t.av v1 (ne h.n2)).av v2 (ne h.n3)) base h.gt (by omega)).mono ?_
  rintro e w3 ⟨rfl, a3, v3, b3⟩
  exact ⟨rfl, ⟨b3, v3.above h0.t⟩, ⟨(a1.av v2 h.n1).av v3 h.n2, a2.hav v3 h.n3, a3⟩⟩
theorem heldLists (w : World) (x : Ent) (r : EntR) (f1 : x.hs.length ≤ 1048576) (f2 : x.bl.length ≤ 1048576) (f3 : x.ts.length ≤ 1048576) (h : EntHeld w x r) :
    Calls Tryz.prog 145 #[.slice r.ha x.hs.length r.hc, .int .i64 1] w fun e w1 => e = .returned (.int .i64 ((1 + 2 * x.hs.length : Nat) : Int)) ∧ Below w.heap.size w w1 ∧
    Calls Tryz.prog 146 #[.slice r.ba x.bl.length r.bc, .int .i64 ((1 + 2 * x.hs.length : Nat) : Int)] w1 fun e w2 => e = .returned (.int .i64 ((1 + 2 * x.hs.length + x.bl.length : Nat) : Int)) ∧ Below w1.heap.size w1 w2 ∧
    Calls Tryz.prog 110 #[.slice r.ta x.ts.length r.tc, .int .i64 ((1 + 2 * x.hs.length + x.bl.length : Nat) : Int)] w2 fun e w3 => e = .returned (.int .i64 ((1 + 2 * x.hs.length + x.bl.length + x.ts.length : Nat) : Int)) ∧ Below w2.heap.size w2 w3 := by
  refine (heldHeaderS_lvk w _ x.hs.length 1 (by omega) (by omega) f1 h.h).mono ?_
  rintro e w1 ⟨rfl, b1⟩
  refine ⟨rfl, b1, ?_⟩
  have h1 := h.below b1
  refine (heldByteS_lvk w1 _ _ _ _ (by omega) f2 h1.b).mono ?_
  rintro e w2 ⟨rfl, b2⟩
  refine ⟨rfl, b2, ?_⟩
  have h2 := h1.below b2
  exact heldStringS_lvk w2 _ _ _ (by omega) (by omega) f3 h2.t
end Go.Proofs.YtelbddgdaibolaaGreatDoor
/-
  Answers of PeekEntry: marked, held.
-/
namespace Go.Proofs.YtelbddgdaibolaaGreatDoor
open Go.ChangeShapes Go.WideShapes Go.ChangeAt Go.RowKit Go.Sort
def nEnt (x : Ent) : Nat := 1 + 2 * x.hs.length + x.bl.length + x.ts.length
set_option maxHeartbeats 4000000 in
theorem markEnt_any (w : World) (base hi : Nat) (x : Ent) (r : EntR) (f1 : x.hs.length ≤ 1048576) (f2 : x.bl.length ≤ 1048576) (f3 : x.ts.length ≤ 1048576) (hw : base ≤ w.heap.size) (hhi : hi ≤ w.heap.size) (h : EntLV w base x r) (h0 : EntLt hi x r) :
    Calls Tryz.prog 47 #[.agg #[.string x.key, .int .i64 x.st, .slice r.ha x.hs.length r.hc, .slice r.ba x.bl.length r.bc, .int .i64 x.t, .int .i64 x.g, .int .i64 x.l, .int .i64 x.s, .int .i64 x.e, .bool x.b1, .bool x.b2, .slice r.ta x.ts.length r.tc, .int .i64 x.pins], .int .i64 1] w fun e w' => e = .returned (.int .i64 (nEnt x : Int)) ∧ Below base w w' ∧ Above hi w w' ∧ EntHeld w' x r := by
  obtain ⟨W, hW⟩ : ∃ W, W = w.alloc (.cells #[.string x.key, .int .i64 x.st, .slice r.ha x.hs.length r.hc, .slice r.ba x.bl.length r.bc, .int .i64 x.t, .int .i64 x.g, .int .i64 x.l, .int .i64 x.s, .int .i64 x.e, .bool x.b1, .bool x.b2, .slice r.ta x.ts.length r.tc, .int .i64 x.pins] 32) := ⟨_, rfl⟩
  have HW : Hid (W = w.alloc (.cells #[.string x.key, .int .i64 x.st, .slice r.ha x.hs.length r.hc, .slice r.ba x.bl.length r.bc, .int .i64 x.t, .int .i64 x.g, .int .i64 x.l, .int .i64 x.s, .int .i64 x.e, .bool x.b1, .bool x.b2, .slice r.ta x.ts.length r.tc, .int .i64 x.pins] 32)) := hW
  have bW : Below w.heap.size w W := by rw [hW]; exact (Below.refl _ _).alloc (Nat.le_refl _) _
  have eW : E13 W w.heap.size (.string x.key) (.int .i64 x.st) (.slice r.ha x.hs.length r.hc) (.slice r.ba x.bl.length r.bc) (.int .i64 x.t) (.int .i64 x.g) (.int .i64 x.l) (.int .i64 x.s) (.int .i64 x.e) (.bool x.b1) (.bool x.b2) (.slice r.ta x.ts.length r.tc) (.int .i64 x.pins) := by rw [hW]; exact E13.new w _ _ _ _ _ _ _ _ _ _ _ _ _ _
  have C := markLists W base hi x r f1 f2 f3 (by have := bW.size; omega) (h.below bW) h0
  have K : Hid (∀ X, Above hi W X → X.cell? ⟨w.heap.size, 3, none⟩ = some (.slice r.ba x.bl.length r.bc) ∧ X.cell? ⟨w.heap.size, 11, none⟩ = some (.slice r.ta x.ts.length r.tc)) := fun X ha => by
    rw [ha.cell _ _ hhi eW.lt, ha.cell _ _ hhi eW.lt]; exact ⟨eW.c3, eW.c11⟩
  have HB : Hid (Below base w W ∧ Above hi w W) := ⟨bW.mono hw, .below bW⟩
  have HN : Hid (((1 + 2 * x.hs.length + x.bl.length + x.ts.length : Nat) : Int) = (nEnt x : Int)) := rfl
  clear hW bW eW h f1 f2 f3 hw h0 hhi
  generalize ((1 + 2 * x.hs.length + x.bl.length + x.ts.length : Nat) : Int) = q3 at *
  generalize ((1 + 2 * x.hs.length + x.bl.length : Nat) : Int) = q2 at *
  generalize ((1 + 2 * x.hs.length : Nat) : Int) = q1 at *
  go_enter Tryz.func47, Tryz.ntmps47
  go_wp2_with fail
  rw [← HW.out]
  refine C.mono ?_
  rintro e w1 ⟨rfl, hb1, hc⟩
  have y1 := (K.out w1 hb1.2).1
  have HC := hc
  have H1 : Hid (Below base w w1 ∧ Above hi W w1 ∧ Above hi w w1) := ⟨HB.out.1.trans hb1.1, hb1.2, HB.out.2.trans hb1.2⟩
  clear hc hb1 HB HW C
  go_wp2_with fail
  refine HC.mono ?_
  rintro e w2 ⟨rfl, hb2, hc⟩
  have y2 := (K.out w2 (H1.out.2.1.trans hb2.2)).2
  have HC2 := hc
  have H2 : Hid (Below base w w2 ∧ Above hi w w2) := ⟨H1.out.1.trans hb2.1, H1.out.2.2.trans hb2.2⟩
  clear hc hb2 H1 HC y1 K
  go_wp2_with fail
  refine HC2.mono ?_
  rintro e w3 ⟨rfl, hb3, hh⟩
  have H3 : Hid (Below base w w3 ∧ Above hi w w3 ∧ EntHeld w3 x r) := ⟨H2.out.1.trans hb3.1, H2.out.2.trans hb3.2, hh⟩
  clear hb3 hh H2 HC2 y2
  go_wp2_with fail
  go_ret
  exact ⟨ret_int HN.out, H3.out⟩
set_option maxHeartbeats 4000000 in
theorem heldEnt_any (w : World) (x : Ent) (r : EntR) (f1 : x.hs.length ≤ 1048576) (f2 : x.bl.length ≤ 1048576) (f3 : x.ts.length ≤ 1048576) (h : EntHeld w x r) :
    Calls Tryz.prog 94 #[.agg #[.string x.key, .int .i64 x.st, .slice r.ha x.hs.length r.hc, .slice r.ba x.bl.length r.bc, .int .i64 x.t, .int .i64 x.g, .int .i64 x.l, .int .i64 x.s, .int .i64 x.e, .bool x.b1, .bool x.b2, .slice r.ta x.ts.length r.tc, .int .i64 x.pins], .int .i64 1] w fun e w' => e = .returned (.int .i64 (nEnt x : Int)) ∧ Below w.heap.size w w' := by
  obtain ⟨W, hW⟩ : ∃ W, W = w.alloc (.cells #[.string x.key, .int .i64 x.st, .slice r.ha x.hs.length r.hc, .slice r.ba x.bl.length r.bc, .int .i64 x.t, .int .i64 x.g, .int .i64 x.l, .int .i64 x.s, .int .i64 x.e, .bool x.b1, .bool x.b2, .slice r.ta x.ts.length r.tc, .int .i64 x.pins] 32) := ⟨_, rfl⟩
  have HW : Hid (W = w.alloc (.cells #[.string x.key, .int .i64 x.st, .slice r.ha x.hs.length r.hc, .slice r.ba x.bl.length r.bc, .int .i64 x.t, .int .i64 x.g, .int .i64 x.l, .int .i64 x.s, .int .i64 x.e, .bool x.b1, .bool x.b2, .slice r.ta x.ts.length r.tc, .int .i64 x.pins] 32)) := hW
  have bW : Below w.heap.size w W := by rw [hW]; exact (Below.refl _ _).alloc (Nat.le_refl _) _
  have eW : E13 W w.heap.size (.string x.key) (.int .i64 x.st) (.slice r.ha x.hs.length r.hc) (.slice r.ba x.bl.length r.bc) (.int .i64 x.t) (.int .i64 x.g) (.int .i64 x.l) (.int .i64 x.s) (.int .i64 x.e) (.bool x.b1) (.bool x.b2) (.slice r.ta x.ts.length r.tc) (.int .i64 x.pins) := by rw [hW]; exact E13.new w _ _ _ _ _ _ _ _ _ _ _ _ _ _
  have C := heldLists W x r f1 f2 f3 (h.below bW)
  have K : Hid (∀ X, Below W.heap.size W X → X.cell? ⟨w.heap.size, 3, none⟩ = some (.slice r.ba x.bl.length r.bc) ∧ X.cell? ⟨w.heap.size, 11, none⟩ = some (.slice r.ta x.ts.length r.tc)) := fun X ha => by
    exact ⟨(eW.keep ha).c3, (eW.keep ha).c11⟩
  have HB : Hid (Below w.heap.size w W) := bW
  have HN : Hid (((1 + 2 * x.hs.length + x.bl.length + x.ts.length : Nat) : Int) = (nEnt x : Int)) := rfl
  clear hW bW eW h f1 f2 f3
  have g1 : ¬ ((1 + 2 * x.hs.length : Nat) : Int) < 0 := by omega
  have g2 : ¬ ((1 + 2 * x.hs.length + x.bl.length : Nat) : Int) < 0 := by omega
  have g3 : ¬ ((1 + 2 * x.hs.length + x.bl.length + x.ts.length : Nat) : Int) < 0 := by omega
  generalize ((1 + 2 * x.hs.length + x.bl.length + x.ts.length : Nat) : Int) = q3 at *
  generalize ((1 + 2 * x.hs.length + x.bl.length : Nat) : Int) = q2 at *
  generalize ((1 + 2 * x.hs.length : Nat) : Int) = q1 at *
  go_enter Tryz.func94, Tryz.ntmps94
  go_wp2_with fail
  rw [← HW.out]
  refine C.mono ?_
  rintro e w1 ⟨rfl, hb1, hc⟩
  have y1 := (K.out w1 hb1).1
  have HC := hc
  have H1 : Hid (Below W.heap.size W w1) := hb1
  clear hc hb1 HW C
  go_wp2_with fail
  refine HC.mono ?_
  rintro e w2 ⟨rfl, hb2, hc⟩
  have y2 := (K.out w2 (H1.out.trans (hb2.mono H1.out.size))).2
  have HC2 := hc
  have H2 : Hid (Below W.heap.size W w2) := H1.out.trans (hb2.mono H1.out.size)
  clear hc hb2 H1 HC y1 K
  go_wp2_with fail
  refine HC2.mono ?_
  rintro e w3 ⟨rfl, hb3⟩
  have H3 : Hid (Below w.heap.size w w3) := HB.out.trans ((H2.out.trans (hb3.mono H2.out.size)).mono HB.out.size)
  clear hb3 H2 HC2 y2 HB
  go_wp2_with fail
  go_ret
  exact ⟨ret_int HN.out, H3.out⟩
set_option maxHeartbeats 4000000 in
theorem markEntR_any (w : World) (base hi : Nat) (c : Int) (x : Ent) (r : EntR) (f1 : x.hs.length ≤ 1048576) (f2 : x.bl.length ≤ 1048576) (f3 : x.ts.length ≤ 1048576) (hw : base ≤ w.heap.size) (hhi : hi ≤ w.heap.size) (h : EntLV w base x r) (h0 : EntLt hi x r) :
    Calls Tryz.prog 38 #[.agg #[.int .i64 c, .string x.key, .int .i64 x.st, .slice r.ha x.hs.length r.hc, .slice r.ba x.bl.length r.bc, .int .i64 x.t, .int .i64 x.g, .int .i64 x.l, .int .i64 x.s, .int .i64 x.e, .bool x.b1, .bool x.b2, .slice r.ta x.ts.length r.tc, .int .i64 x.pins], .int .i64 1] w fun e w' => e = .returned (.int .i64 (nEnt x : Int)) ∧ Below base w w' ∧ Above hi w w' ∧ EntHeld w' x r := by
  have B0 : Below w.heap.size w (w.alloc (.cells #[.int .i64 c, .string x.key, .int .i64 x.st, .slice r.ha x.hs.length r.hc, .slice r.ba x.bl.length r.bc, .int .i64 x.t, .int .i64 x.g, .int .i64 x.l, .int .i64 x.s, .int .i64 x.e, .bool x.b1, .bool x.b2, .slice r.ta x.ts.length r.tc, .int .i64 x.pins] 42)) := (Below.refl _ _).alloc (Nat.le_refl _) _
  have HC := markEnt_any (w.alloc (.cells #[.int .i64 c, .string x.key, .int .i64 x.st, .slice r.ha x.hs.length r.hc, .slice r.ba x.bl.length r.bc, .int .i64 x.t, .int .i64 x.g, .int .i64 x.l, .int .i64 x.s, .int .i64 x.e, .bool x.b1, .bool x.b2, .slice r.ta x.ts.length r.tc, .int .i64 x.pins] 42)) base hi x r f1 f2 f3 (by have := B0.size; omega) (by have := B0.size; omega) (h.below B0) h0
  have HB : Hid (Below base w (w.alloc (.cells #[.int .i64 c, .string x.key, .int .i64 x.st, .slice r.ha x.hs.length r.hc, .slice r.ba x.bl.length r.bc, .int .i64 x.t, .int .i64 x.g, .int .i64 x.l, .int .i64 x.s, .int .i64 x.e, .bool x.b1, .bool x.b2, .slice r.ta x.ts.length r.tc, .int .i64 x.pins] 42)) ∧ Above hi w (w.alloc (.cells #[.int .i64 c, .string x.key, .int .i64 x.st, .slice r.ha x.hs.length r.hc, .slice r.ba x.bl.length r.bc, .int .i64 x.t, .int .i64 x.g, .int .i64 x.l, .int .i64 x.s, .int .i64 x.e, .bool x.b1, .bool x.b2, .slice r.ta x.ts.length r.tc, .int .i64 x.pins] 42))) := ⟨B0.mono hw, .below B0⟩
  clear B0 h f1 f2 f3 hw hhi h0
  generalize (nEnt x : Int) = q at *
  go_enter Tryz.func38, Tryz.ntmps38
  go_wp2_with fail
  refine HC.mono ?_
  rintro e w1 ⟨rfl, hb1, ha1, hh⟩
  have B1 : Hid (Below base w w1 ∧ Above hi w w1 ∧ EntHeld w1 x r) := ⟨HB.out.1.trans hb1, HB.out.2.trans ha1, hh⟩
  clear hb1 ha1 hh HB HC
  go_wp2_with fail
  go_ret
  exact ⟨rfl, B1.out⟩
set_option maxHeartbeats 4000000 in
theorem heldEntR_any (w : World) (c : Int) (x : Ent) (r : EntR) (f1 : x.hs.length ≤ 1048576) (f2 : x.bl.length ≤ 1048576) (f3 : x.ts.length ≤ 1048576) (h : EntHeld w x r) :
    Calls Tryz.prog 39 #[.agg #[.int .i64 c, .string x.key, .int .i64 x.st, .slice r.ha x.hs.length r.hc, .slice r.ba x.bl.length r.bc, .int .i64 x.t, .int .i64 x.g, .int .i64 x.l, .int .i64 x.s, .int .i64 x.e, .bool x.b1, .bool x.b2, .slice r.ta x.ts.length r.tc, .int .i64 x.pins], .int .i64 1] w fun e w' => e = .returned (.int .i64 (nEnt x : Int)) ∧ Below w.heap.size w w' := by
  have B0 : Below w.heap.size w (w.alloc (.cells #[.int .i64 c, .string x.key, .int .i64 x.st, .slice r.ha x.hs.length r.hc, .slice r.ba x.bl.length r.bc, .int .i64 x.t, .int .i64 x.g, .int .i64 x.l, .int .i64 x.s, .int .i64 x.e, .bool x.b1, .bool x.b2, .slice r.ta x.ts.length r.tc, .int .i64 x.pins] 42)) := (Below.refl _ _).alloc (Nat.le_refl _) _
  have HC := heldEnt_any (w.alloc (.cells #[.int .i64 c, .string x.key, .int .i64 x.st, .slice r.ha x.hs.length r.hc, .slice r.ba x.bl.length r.bc, .int .i64 x.t, .int .i64 x.g, .int .i64 x.l, .int .i64 x.s, .int .i64 x.e, .bool x.b1, .bool x.b2, .slice r.ta x.ts.length r.tc, .int .i64 x.pins] 42)) x r f1 f2 f3 (h.below B0)
  have HB : Hid (Below w.heap.size w (w.alloc (.cells #[.int .i64 c, .string x.key, .int .i64 x.st, .slice r.ha x.hs.length r.hc, .slice r.ba x.bl.length r.bc, .int .i64 x.t, .int .i64 x.g, .int .i64 x.l, .int .i64 x.s, .int .i64 x.e, .bool x.b1, .bool x.b2, .slice r.ta x.ts.length r.tc, .int .i64 x.pins] 42))) := B0
  clear B0 h f1 f2 f3
  have g : ¬ (nEnt x : Int) < 0 := by omega
  generalize (nEnt x : Int) = q at *
  go_enter Tryz.func39, Tryz.ntmps39
  go_wp2_with fail
  refine HC.mono ?_
  rintro e w1 ⟨rfl, hb1⟩
  have B1 : Hid (Below w.heap.size w w1) := HB.out.trans (hb1.mono HB.out.size)
  clear hb1 HB HC
  go_wp2_with fail
  go_ret
  exact ⟨rfl, B1.out⟩
end Go.Proofs.YtelbddgdaibolaaGreatDoor
/-
  The law of PeekEntry.
-/
namespace Go.Proofs.YtelbddgdaibolaaGreatDoor
open Go.ChangeShapes Go.WideShapes Go.ChangeAt Go.RowKit Go.Sort
theorem E14.above {w w' : World} {hi b : Nat} {v0 v1 v2 v3 v4 v5 v6 v7 v8 v9 v10 v11 v12 v13 : Value} (k : E14 w b v0 v1 v2 v3 v4 v5 v6 v7 v8 v9 v10 v11 v12 v13) (h : Above hi w w') (hb : hi ≤ b) : E14 w' b v0 v1 v2 v3 v4 v5 v6 v7 v8 v9 v10 v11 v12 v13 :=
  ⟨by rw [h.cell b 0 hb k.lt]; exact k.c0, by rw [h.cell b 1 hb k.lt]; exact k.c1, by rw [h.cell b 2 hb k.lt]; exact k.c2, by rw [h.cell b 3 hb k.lt]; exact k.c3, by rw [h.cell b 4 hb k.lt]; exact k.c4, by rw [h.cell b 5 hb k.lt]; exact k.c5, by rw [h.cell b 6 hb k.lt]; exact k.c6, by rw [h.cell b 7 hb k.lt]; exact k.c7, by rw [h.cell b 8 hb k.lt]; exact k.c8, by rw [h.cell b 9 hb k.lt]; exact k.c9, by rw [h.cell b 10 hb k.lt]; exact k.c10, by rw [h.cell b 11 hb k.lt]; exact k.c11, by rw [h.cell b 12 hb k.lt]; exact k.c12, by rw [h.cell b 13 hb k.lt]; exact k.c13, fun o => by rw [h.frozen b o hb k.lt]; exact k.fr o, Nat.lt_of_lt_of_le k.lt h.size⟩
set_option maxRecDepth 100000 in
set_option maxHeartbeats 16000000 in
theorem lawPeekEntry (w : World) (bu gu : Int) (ta ka : Option Addr) (tc kc : Nat) (tl kl : List (Ent × EntR)) (key : ByteArray) (hset : SetIs w) (h1 : StoArg w ta ka tl kl) :
    Calls Tryz.prog 5 #[.agg #[.int .i64 bu, .int .i64 gu, .slice ta tl.length tc, .slice ka kl.length kc], .string key] w fun r w' => r = .returned (.bool true) ∧ Below w.heap.size w w' := by
  obtain ⟨W, hW⟩ : ∃ W, W = w.alloc (.cells #[.int .i64 bu, .int .i64 gu, .slice ta tl.length tc, .slice ka kl.length kc] 60) := ⟨_, rfl⟩
  have HW : Hid (W = w.alloc (.cells #[.int .i64 bu, .int .i64 gu, .slice ta tl.length tc, .slice ka kl.length kc] 60)) := hW
  have K0 : Hid (Below w.heap.size w W ∧ S4 W w.heap.size (.int .i64 bu) (.int .i64 gu) (.slice ta tl.length tc) (.slice ka kl.length kc)) := by
    rw [hW]; exact ⟨(Below.refl _ _).alloc (Nat.le_refl _) _, S4.new w _ _ _ _ _⟩
  by_cases ck : (1048576 : Int) < key.size
  · have KB : Hid (Below w.heap.size w W) := K0.out.1
    clear hW hset h1 K0
    go_enter Tryz.func5, Tryz.ntmps5
    go_wp2_with fail
    rw [← HW.out]
    go_ret
    exact ⟨rfl, KB.out⟩
  have HZ : Hid (∀ X, Below w.heap.size w X → Calls Tryz.prog 32 #[.agg #[.int .i64 bu, .int .i64 gu, .slice ta tl.length tc, .slice ka kl.length kc], .int .i64 1048576] X fun r w' => r = .returned (.int .i64 (szSt 1048576 tl kl)) ∧ Below X.heap.size X w') := fun X hb => szStore_arg X bu gu ta ka tc kc tl kl 1048576 (by omega) (by omega) (h1.keep hb)
  obtain ⟨ok, hok⟩ : ∃ P : Prop, P = (StoFit tl kl ∧ ∀ x ∈ (tl ++ kl).map Prod.fst, ∀ t ∈ x.ts, t.size ≤ 1048576) := ⟨_, rfl⟩
  have HR : Hid (¬ szSt 1048576 tl kl < 0 → ok) := fun h => by rw [hok]; exact ⟨(szSt_room (by omega) h).1, szSt_tags (by omega) h⟩
  have HT : Hid (ok → ∀ X, Below w.heap.size w X → Calls Tryz.prog 34 #[.agg #[.int .i64 bu, .int .i64 gu, .slice ta tl.length tc, .slice ka kl.length kc]] X fun ee w' => (∃ G1 G2, ee = .returned (.agg #[.int .i64 bu, .int .i64 gu, .slice (some ⟨G1, 0, none⟩) tl.length tl.length, .slice (some ⟨G2, 0, none⟩) kl.length kl.length]) ∧ StoNew w' G1 G2 tl kl ∧ X.heap.size ≤ G1) ∧ Below X.heap.size X w') := fun hf X hb => toStore_arg X bu gu ta ka tc kc tl kl (h1.keep hb) (hok ▸ hf).1
  have HQ : Hid (ok → ∀ X G1 G2 H1 H2, StoNew X G1 G2 tl kl → StoNew X H1 H2 tl kl → Calls Tryz.prog 36 #[.agg #[.int .i64 bu, .int .i64 gu, .slice (some ⟨G1, 0, none⟩) tl.length tl.length, .slice (some ⟨G2, 0, none⟩) kl.length kl.length], .agg #[.int .i64 bu, .int .i64 gu, .slice (some ⟨H1, 0, none⟩) tl.length tl.length, .slice (some ⟨H2, 0, none⟩) kl.length kl.length]] X fun r w' => r = .returned (.bool true) ∧ Below X.heap.size X w') := fun hf X G1 G2 H1 H2 h k => eqStore_new X bu gu tl kl G1 G2 H1 H2 (hok ▸ hf).1 h k
  have HM : Hid (ok → ∀ w0 X G1 G2 lo, StoNew w0 G1 G2 tl kl → Below w0.heap.size w0 X → lo ≤ G1 → Calls Tryz.prog 37 #[.agg #[.int .i64 bu, .int .i64 gu, .slice (some ⟨G1, 0, none⟩) tl.length tl.length, .slice (some ⟨G2, 0, none⟩) kl.length kl.length], .int .i64 1] X fun e w' => (∃ c1 : Nat, e = .returned (.int .i64 (c1 : Int)) ∧ 1 ≤ c1 ∧ c1 ≤ 10000000000000) ∧ Below lo X w' ∧ Above w0.heap.size X w') := fun hf w0 X G1 G2 lo h hX hlo => markSto_weak w0 X bu gu tl kl G1 G2 lo _ _ _ (hok ▸ hf).1 h hX hlo rfl
  obtain ⟨c, hc⟩ : ∃ c, (peekR bu gu (tl.map Prod.fst) (kl.map Prod.fst) key).1 = c := ⟨_, rfl⟩
  obtain ⟨x, hx⟩ : ∃ x, (peekR bu gu (tl.map Prod.fst) (kl.map Prod.fst) key).2 = x := ⟨_, rfl⟩
  have HFX : Hid (ok → EntFit x) := fun hf => by rw [← hx]; exact peek_fit (hok ▸ hf).1
  have HS : Hid (ok → ∀ X G1 G2, StoNew X G1 G2 tl kl → Calls Tryz.prog 33 #[.agg #[.int .i64 bu, .int .i64 gu, .slice (some ⟨G1, 0, none⟩) tl.length tl.length, .slice (some ⟨G2, 0, none⟩) kl.length kl.length], .string key] X fun e w' => PeekOk c x X.heap.size e w' ∧ Below X.heap.size X w') := fun hf X G1 G2 h => by
    have := specPeek_new X bu gu tl kl G1 G2 key (ok_of h1 (hok ▸ hf).1) (hok ▸ hf).1 h
    rw [hc, hx] at this
    exact this
  have HG : Hid (ok → ∀ X G1 G2, Below w.heap.size w X → StoNew X G1 G2 tl kl → Calls Tryz.prog 19 #[.agg #[.int .i64 bu, .int .i64 gu, .slice (some ⟨G1, 0, none⟩) tl.length tl.length, .slice (some ⟨G2, 0, none⟩) kl.length kl.length], .string key] X fun e w' => PeekOk c x X.heap.size e w' ∧ Below X.heap.size X w') := fun hf X G1 G2 hb h => by
    have := implPeek_new X bu gu tl kl G1 G2 key (hset.below hb) (ok_of h1 (hok ▸ hf).1) (hok ▸ hf).1 (hok ▸ hf).2 h
    rw [hc, hx] at this
    exact this
  clear h1 hW hset hc hx hok
  generalize szSt 1048576 tl kl = z1 at *
  generalize tl.length = tn at *
  generalize kl.length = kn at *
  go_enter Tryz.func5, Tryz.ntmps5
  go_wp2_with fail
  rw [← HW.out]
  refine (HZ.out _ K0.out.1).mono ?_
  rintro e0 w1 ⟨rfl, hb1⟩
  have K1 : Hid (Below w.heap.size w w1 ∧ S4 w1 w.heap.size (.int .i64 bu) (.int .i64 gu) (.slice ta tn tc) (.slice ka kn kc)) := ⟨K0.out.1.trans (hb1.mono K0.out.1.size), K0.out.2.keep hb1⟩
  clear K0 HW HZ hb1
  by_cases cz : z1 < 0
  · clear HR HT HQ HS HG HM HFX
    go_wp2_with fail
    go_ret
    exact ⟨rfl, K1.out.1⟩
  have HF : Hid ok := HR.out (by omega)
  have HX : Hid (EntFit x) := HFX.out HF.out
  have HE : Hid (∀ X r s, EntIn X x r → EntIn X x s → Calls Tryz.prog 35 #[.agg #[.int .i64 c, .string x.key, .int .i64 x.st, .slice r.ha x.hs.length r.hc, .slice r.ba x.bl.length r.bc, .int .i64 x.t, .int .i64 x.g, .int .i64 x.l, .int .i64 x.s, .int .i64 x.e, .bool x.b1, .bool x.b2, .slice r.ta x.ts.length r.tc, .int .i64 x.pins], .agg #[.int .i64 c, .string x.key, .int .i64 x.st, .slice s.ha x.hs.length s.hc, .slice s.ba x.bl.length s.bc, .int .i64 x.t, .int .i64 x.g, .int .i64 x.l, .int .i64 x.s, .int .i64 x.e, .bool x.b1, .bool x.b2, .slice s.ta x.ts.length s.tc, .int .i64 x.pins]] X fun e w' => e = .returned (.bool true) ∧ Below X.heap.size X w') := fun X r s h k => eqEntR_same X c x r s HX.out h k
  clear HR HFX
  have e0 := K1.out.2.c0
  have e1 := K1.out.2.c1
  have e2 := K1.out.2.c2
  have e3 := K1.out.2.c3
  go_wp2_with fail
  refine (HT.out HF.out _ K1.out.1).mono ?_
  rintro r0 w2 ⟨⟨J1, J2, rfl, m2, _⟩, hb2⟩
  have K2 : Hid (Below w.heap.size w w2 ∧ S4 w2 w.heap.size (.int .i64 bu) (.int .i64 gu) (.slice ta tn tc) (.slice ka kn kc) ∧ StoNew w2 J1 J2 tl kl) := ⟨K1.out.1.trans (hb2.mono K1.out.1.size), K1.out.2.keep hb2, m2⟩
  clear K1 e0 e1 e2 e3 hb2 m2
  go_wp2_with fail
  refine (HS.out HF.out _ _ _ K2.out.2.2).mono ?_
  rintro r0 w3 ⟨⟨r, rfl, hr⟩, hb3⟩
  obtain ⟨V3, hV3⟩ : ∃ V, V = w3.alloc (.cells #[.int .i64 c, .string x.key, .int .i64 x.st, .slice r.ha x.hs.length r.hc, .slice r.ba x.bl.length r.bc, .int .i64 x.t, .int .i64 x.g, .int .i64 x.l, .int .i64 x.s, .int .i64 x.e, .bool x.b1, .bool x.b2, .slice r.ta x.ts.length r.tc, .int .i64 x.pins] 42) := ⟨_, rfl⟩
  have HV3 : Hid (V3 = w3.alloc (.cells #[.int .i64 c, .string x.key, .int .i64 x.st, .slice r.ha x.hs.length r.hc, .slice r.ba x.bl.length r.bc, .int .i64 x.t, .int .i64 x.g, .int .i64 x.l, .int .i64 x.s, .int .i64 x.e, .bool x.b1, .bool x.b2, .slice r.ta x.ts.length r.tc, .int .i64 x.pins] 42)) := hV3
  have K3 : Hid (Below w.heap.size w V3 ∧ S4 V3 w.heap.size (.int .i64 bu) (.int .i64 gu) (.slice ta tn tc) (.slice ka kn kc) ∧ E14 V3 w3.heap.size (.int .i64 c) (.string x.key) (.int .i64 x.st) (.slice r.ha x.hs.length r.hc) (.slice r.ba x.bl.length r.bc) (.int .i64 x.t) (.int .i64 x.g) (.int .i64 x.l) (.int .i64 x.s) (.int .i64 x.e) (.bool x.b1) (.bool x.b2) (.slice r.ta x.ts.length r.tc) (.int .i64 x.pins) ∧ EntIn V3 x r) := by
    have a3 : Below w3.heap.size w3 V3 := by rw [hV3]; exact (Below.refl _ _).alloc (Nat.le_refl _) _
    have b3 := K2.out.1.trans (hb3.mono K2.out.1.size)
    exact ⟨b3.trans (a3.mono b3.size), (K2.out.2.1.keep hb3).keep a3, by rw [hV3]; exact E14.new w3 _ _ _ _ _ _ _ _ _ _ _ _ _ _ _, hr.in.keep a3⟩
  clear K2 hb3 HS hV3 hr
  have e0 := K3.out.2.1.c0
  have e1 := K3.out.2.1.c1
  have e2 := K3.out.2.1.c2
  have e3 := K3.out.2.1.c3
  rw [HV3.out] at e0 e1 e2 e3
  go_wp2_with fail
  rw [← HV3.out]
  refine (HT.out HF.out _ K3.out.1).mono ?_
  rintro r0 w4 ⟨⟨G1, G2, rfl, m4, hG⟩, hb4⟩
  obtain ⟨V4, hV4⟩ : ∃ V, V = w4.alloc (.cells #[.int .i64 bu, .int .i64 gu, .slice (some ⟨G1, 0, none⟩) tn tn, .slice (some ⟨G2, 0, none⟩) kn kn] 26) := ⟨_, rfl⟩
  have HV4 : Hid (V4 = w4.alloc (.cells #[.int .i64 bu, .int .i64 gu, .slice (some ⟨G1, 0, none⟩) tn tn, .slice (some ⟨G2, 0, none⟩) kn kn] 26)) := hV4
  have K4 : Hid (Below w.heap.size w V4 ∧ S4 V4 w.heap.size (.int .i64 bu) (.int .i64 gu) (.slice ta tn tc) (.slice ka kn kc) ∧ S4 V4 w4.heap.size (.int .i64 bu) (.int .i64 gu) (.slice (some ⟨G1, 0, none⟩) tn tn) (.slice (some ⟨G2, 0, none⟩) kn kn) ∧ StoNew w4 G1 G2 tl kl ∧ Below w4.heap.size w4 V4 ∧ Below V3.heap.size V3 V4) := by
    have a4 : Below w4.heap.size w4 V4 := by rw [hV4]; exact (Below.refl _ _).alloc (Nat.le_refl _) _
    have b4 := K3.out.1.trans (hb4.mono K3.out.1.size)
    exact ⟨b4.trans (a4.mono b4.size), (K3.out.2.1.keep hb4).keep a4, by rw [hV4]; exact S4.new w4 _ _ _ _ _, m4, a4, hb4.trans (a4.mono hb4.size)⟩
  clear e0 e1 e2 e3 hb4 m4 hV4 HV3
  go_wp2_with fail
  rw [← HV4.out]
  refine (HG.out HF.out _ _ _ K4.out.1 (K4.out.2.2.2.1.keep K4.out.2.2.2.2.1)).mono ?_
  rintro r0 w5 ⟨⟨s, rfl, hs⟩, hb5⟩
  obtain ⟨V5, hV5⟩ : ∃ V, V = w5.alloc (.cells #[.int .i64 c, .string x.key, .int .i64 x.st, .slice s.ha x.hs.length s.hc, .slice s.ba x.bl.length s.bc, .int .i64 x.t, .int .i64 x.g, .int .i64 x.l, .int .i64 x.s, .int .i64 x.e, .bool x.b1, .bool x.b2, .slice s.ta x.ts.length s.tc, .int .i64 x.pins] 42) := ⟨_, rfl⟩
  have HV5 : Hid (V5 = w5.alloc (.cells #[.int .i64 c, .string x.key, .int .i64 x.st, .slice s.ha x.hs.length s.hc, .slice s.ba x.bl.length s.bc, .int .i64 x.t, .int .i64 x.g, .int .i64 x.l, .int .i64 x.s, .int .i64 x.e, .bool x.b1, .bool x.b2, .slice s.ta x.ts.length s.tc, .int .i64 x.pins] 42)) := hV5
  have K5 : Hid (Below V4.heap.size V4 V5 ∧ E14 V5 w5.heap.size (.int .i64 c) (.string x.key) (.int .i64 x.st) (.slice s.ha x.hs.length s.hc) (.slice s.ba x.bl.length s.bc) (.int .i64 x.t) (.int .i64 x.g) (.int .i64 x.l) (.int .i64 x.s) (.int .i64 x.e) (.bool x.b1) (.bool x.b2) (.slice s.ta x.ts.length s.tc) (.int .i64 x.pins) ∧ EntLV V5 V4.heap.size x s ∧ EntLt w5.heap.size x s ∧ w5.heap.size ≤ V5.heap.size ∧ V4.heap.size ≤ w5.heap.size) := by
    have a5 : Below w5.heap.size w5 V5 := by rw [hV5]; exact (Below.refl _ _).alloc (Nat.le_refl _) _
    exact ⟨hb5.trans (a5.mono hb5.size), by rw [hV5]; exact E14.new w5 _ _ _ _ _ _ _ _ _ _ _ _ _ _ _, hs.lv.below a5, hs.lv.lts, a5.size, hb5.size⟩
  have K35 : Hid (Below V3.heap.size V3 V5) := K4.out.2.2.2.2.2.trans (K5.out.1.mono K4.out.2.2.2.2.2.size)
  clear hb5 hV5 HV4 hs
  have i0 := (K3.out.2.2.1.keep K35.out).c0
  have i1 := (K3.out.2.2.1.keep K35.out).c1
  have i2 := (K3.out.2.2.1.keep K35.out).c2
  have i3 := (K3.out.2.2.1.keep K35.out).c3
  have i4 := (K3.out.2.2.1.keep K35.out).c4
  have i5 := (K3.out.2.2.1.keep K35.out).c5
  have i6 := (K3.out.2.2.1.keep K35.out).c6
  have i7 := (K3.out.2.2.1.keep K35.out).c7
  have i8 := (K3.out.2.2.1.keep K35.out).c8
  have i9 := (K3.out.2.2.1.keep K35.out).c9
  have i10 := (K3.out.2.2.1.keep K35.out).c10
  have i11 := (K3.out.2.2.1.keep K35.out).c11
  have i12 := (K3.out.2.2.1.keep K35.out).c12
  have i13 := (K3.out.2.2.1.keep K35.out).c13
  rw [HV5.out] at i0 i1 i2 i3 i4 i5 i6 i7 i8 i9 i10 i11 i12 i13
  go_wp2_with fail
  rw [← HV5.out]
  refine (HE.out _ s r K5.out.2.2.1.in (K3.out.2.2.2.keep K35.out)).mono ?_
  rintro e0 w6 ⟨rfl, hb6⟩
  obtain ⟨x0, hx0⟩ : ∃ q, q = w4.heap.size := ⟨_, rfl⟩
  have HX0 : Hid (x0 = w4.heap.size) := hx0
  have HK : Hid (∀ X, Below w6.heap.size w6 X → Below V5.heap.size V5 X) := fun X hX => hb6.trans (hX.mono hb6.size)
  have HKA : Hid (∀ X, Below V5.heap.size V5 X → Below w.heap.size w X ∧ S4 X w.heap.size (.int .i64 bu) (.int .i64 gu) (.slice ta tn tc) (.slice ka kn kc) ∧ S4 X x0 (.int .i64 bu) (.int .i64 gu) (.slice (some ⟨G1, 0, none⟩) tn tn) (.slice (some ⟨G2, 0, none⟩) kn kn) ∧ StoNew X G1 G2 tl kl) := fun X hX => by
    rw [hx0]
    have h4 : Below V4.heap.size V4 X := K5.out.1.trans (hX.mono K5.out.1.size)
    exact ⟨K4.out.1.trans (h4.mono K4.out.1.size), K4.out.2.1.keep h4, K4.out.2.2.1.keep h4, (K4.out.2.2.2.1.keep K4.out.2.2.2.2.1).keep h4⟩
  have HG1 : Hid (V3.heap.size ≤ G1) := hG
  clear i0 i1 i2 i3 i4 i5 i6 i7 i8 i9 i10 i11 i12 i13 hb6 HV5 hG
  rw [← hx0]
  clear hx0
  have HKS : Hid (∀ X, Below w6.heap.size w6 X → X.cell? ⟨w.heap.size, 0, none⟩ = some (.int .i64 bu) ∧ X.cell? ⟨w.heap.size, 1, none⟩ = some (.int .i64 gu) ∧ X.cell? ⟨w.heap.size, 2, none⟩ = some (.slice ta tn tc) ∧ X.cell? ⟨w.heap.size, 3, none⟩ = some (.slice ka kn kc) ∧ X.cell? ⟨x0, 0, none⟩ = some (.int .i64 bu) ∧ X.cell? ⟨x0, 1, none⟩ = some (.int .i64 gu) ∧ X.cell? ⟨x0, 2, none⟩ = some (.slice (some ⟨G1, 0, none⟩) tn tn) ∧ X.cell? ⟨x0, 3, none⟩ = some (.slice (some ⟨G2, 0, none⟩) kn kn)) := fun X hX => by
    have hb := HKA.out X (HK.out X hX)
    exact ⟨hb.2.1.c0, hb.2.1.c1, hb.2.1.c2, hb.2.1.c3, hb.2.2.1.c0, hb.2.2.1.c1, hb.2.2.1.c2, hb.2.2.1.c3⟩
  have B0 : Hid (Below w6.heap.size w6 w6.drew) := (Below.refl _ _).drew
  go_wp2_with fail
  go_region_held3 (fun X => X.cell? ⟨w.heap.size, 0, none⟩ = some (.int .i64 bu) ∧ X.cell? ⟨w.heap.size, 1, none⟩ = some (.int .i64 gu) ∧ X.cell? ⟨w.heap.size, 2, none⟩ = some (.slice ta tn tc) ∧ X.cell? ⟨w.heap.size, 3, none⟩ = some (.slice ka kn kc) ∧ X.cell? ⟨x0, 0, none⟩ = some (.int .i64 bu) ∧ X.cell? ⟨x0, 1, none⟩ = some (.int .i64 gu) ∧ X.cell? ⟨x0, 2, none⟩ = some (.slice (some ⟨G1, 0, none⟩) tn tn) ∧ X.cell? ⟨x0, 3, none⟩ = some (.slice (some ⟨G2, 0, none⟩) kn kn))
    (first | exact HKS.out _ BB.out | exact HKS.out _ BA.out | exact HKS.out _ B0.out)
    (first
    | (go_at_call 34; refine (HT.out HF.out _ (HKA.out _ (HK.out _ B0.out)).1).mono ?_; rintro r0 wa ⟨⟨I1, I2, rfl, ma, _⟩, hba⟩; have BA : Hid (Below w6.heap.size w6 wa) := B0.out.trans (hba.mono B0.out.size); have MA : Hid (StoNew wa I1 I2 tl kl) := ma; clear hba ma)
    | (go_at_call 36; refine (HQ.out HF.out _ _ _ _ _ (HKA.out _ (HK.out _ BA.out)).2.2.2 MA.out).mono ?_; rintro r0 wb ⟨rfl, hbb⟩; have BB : Hid (Below w6.heap.size w6 wb) := BA.out.trans (hbb.mono BA.out.size); clear hbb))
  all_goals
    have KB : Hid (Below V5.heap.size V5 wb) := HK.out _ BB.out
    obtain ⟨x1, x2, x3, x4, x5, x6, x7, x8⟩ := HKS.out _ BB.out
    clear HK HKS B0 BA BB MA HQ
    go_wp2_with fail
    have h4b : Below w4.heap.size w4 wb := K4.out.2.2.2.2.1.trans ((K5.out.1.trans (KB.out.mono K5.out.1.size)).mono K4.out.2.2.2.2.1.size)
    refine (HM.out HF.out w4 wb G1 G2 V3.heap.size K4.out.2.2.2.1 h4b HG1.out).mono ?_
    rintro r0 w7 ⟨⟨k1, rfl, hk1, hk2⟩, hb7, ha7⟩
    have g7 : ¬ (k1 : Int) < 0 := by omega
    have H7 : Hid (Below w.heap.size w w7 ∧ S4 w7 w.heap.size (.int .i64 bu) (.int .i64 gu) (.slice ta tn tc) (.slice ka kn kc) ∧ E14 w7 w3.heap.size (.int .i64 c) (.string x.key) (.int .i64 x.st) (.slice r.ha x.hs.length r.hc) (.slice r.ba x.bl.length r.bc) (.int .i64 x.t) (.int .i64 x.g) (.int .i64 x.l) (.int .i64 x.s) (.int .i64 x.e) (.bool x.b1) (.bool x.b2) (.slice r.ta x.ts.length r.tc) (.int .i64 x.pins) ∧ EntIn w7 x r ∧ E14 w7 w5.heap.size (.int .i64 c) (.string x.key) (.int .i64 x.st) (.slice s.ha x.hs.length s.hc) (.slice s.ba x.bl.length s.bc) (.int .i64 x.t) (.int .i64 x.g) (.int .i64 x.l) (.int .i64 x.s) (.int .i64 x.e) (.bool x.b1) (.bool x.b2) (.slice s.ta x.ts.length s.tc) (.int .i64 x.pins) ∧ EntLV w7 V4.heap.size x s ∧ Below V3.heap.size V3 w7 ∧ w5.heap.size ≤ w7.heap.size) := by
      have d3 : Below V3.heap.size V3 w7 := (K35.out.trans (KB.out.mono K35.out.size)).trans hb7
      have e4 := K4.out.2.2.2.2.1.size
      exact ⟨K3.out.1.trans (d3.mono K3.out.1.size), K3.out.2.1.keep d3, K3.out.2.2.1.keep d3, K3.out.2.2.2.keep d3, (K5.out.2.1.keep KB.out).above ha7 (by have := K5.out.2.2.2.2.2; omega), (K5.out.2.2.1.below KB.out).above ha7 (by omega), d3, by have := K5.out.2.2.2.2.1; have := KB.out.size; have := hb7.size; omega⟩
    clear hb7 ha7 h4b KB x1 x2 x3 x4 x5 x6 x7 x8 HM HKA K35 HG1 HX0
    have i0 := H7.out.2.2.1.c0
    have i1 := H7.out.2.2.1.c1
    have i2 := H7.out.2.2.1.c2
    have i3 := H7.out.2.2.1.c3
    have i4 := H7.out.2.2.1.c4
    have i5 := H7.out.2.2.1.c5
    have i6 := H7.out.2.2.1.c6
    have i7 := H7.out.2.2.1.c7
    have i8 := H7.out.2.2.1.c8
    have i9 := H7.out.2.2.1.c9
    have i10 := H7.out.2.2.1.c10
    have i11 := H7.out.2.2.1.c11
    have i12 := H7.out.2.2.1.c12
    have i13 := H7.out.2.2.1.c13
    have j0 := H7.out.2.2.2.2.1.c0
    have j1 := H7.out.2.2.2.2.1.c1
    have j2 := H7.out.2.2.2.2.1.c2
    have j3 := H7.out.2.2.2.2.1.c3
    have j4 := H7.out.2.2.2.2.1.c4
    have j5 := H7.out.2.2.2.2.1.c5
    have j6 := H7.out.2.2.2.2.1.c6
    have j7 := H7.out.2.2.2.2.1.c7
    have j8 := H7.out.2.2.2.2.1.c8
    have j9 := H7.out.2.2.2.2.1.c9
    have j10 := H7.out.2.2.2.2.1.c10
    have j11 := H7.out.2.2.2.2.1.c11
    have j12 := H7.out.2.2.2.2.1.c12
    have j13 := H7.out.2.2.2.2.1.c13
    go_wp2_with fail
    refine (HE.out _ s r H7.out.2.2.2.2.2.1.in H7.out.2.2.2.1).mono ?_
    rintro e0 w8 ⟨rfl, hb8⟩
    have H8 : Hid (Below w.heap.size w w8 ∧ S4 w8 w.heap.size (.int .i64 bu) (.int .i64 gu) (.slice ta tn tc) (.slice ka kn kc) ∧ E14 w8 w3.heap.size (.int .i64 c) (.string x.key) (.int .i64 x.st) (.slice r.ha x.hs.length r.hc) (.slice r.ba x.bl.length r.bc) (.int .i64 x.t) (.int .i64 x.g) (.int .i64 x.l) (.int .i64 x.s) (.int .i64 x.e) (.bool x.b1) (.bool x.b2) (.slice r.ta x.ts.length r.tc) (.int .i64 x.pins) ∧ EntIn w8 x r ∧ E14 w8 w5.heap.size (.int .i64 c) (.string x.key) (.int .i64 x.st) (.slice s.ha x.hs.length s.hc) (.slice s.ba x.bl.length s.bc) (.int .i64 x.t) (.int .i64 x.g) (.int .i64 x.l) (.int .i64 x.s) (.int .i64 x.e) (.bool x.b1) (.bool x.b2) (.slice s.ta x.ts.length s.tc) (.int .i64 x.pins) ∧ EntLV w8 V4.heap.size x s ∧ Below V3.heap.size V3 w8 ∧ w5.heap.size ≤ w8.heap.size) := by
      have d3 : Below V3.heap.size V3 w8 := H7.out.2.2.2.2.2.2.1.trans (hb8.mono H7.out.2.2.2.2.2.2.1.size)
      exact ⟨K3.out.1.trans (d3.mono K3.out.1.size), K3.out.2.1.keep d3, K3.out.2.2.1.keep d3, K3.out.2.2.2.keep d3, H7.out.2.2.2.2.1.keep hb8, H7.out.2.2.2.2.2.1.below hb8, d3, by have := H7.out.2.2.2.2.2.2.2; have := hb8.size; omega⟩
    clear hb8 H7 g7 i0 i1 i2 i3 i4 i5 i6 i7 i8 i9 i10 i11 i12 i13 j0 j1 j2 j3 j4 j5 j6 j7 j8 j9 j10 j11 j12 j13
    have i0 := H8.out.2.2.2.2.1.c0
    have i1 := H8.out.2.2.2.2.1.c1
    have i2 := H8.out.2.2.2.2.1.c2
    have i3 := H8.out.2.2.2.2.1.c3
    have i4 := H8.out.2.2.2.2.1.c4
    have i5 := H8.out.2.2.2.2.1.c5
    have i6 := H8.out.2.2.2.2.1.c6
    have i7 := H8.out.2.2.2.2.1.c7
    have i8 := H8.out.2.2.2.2.1.c8
    have i9 := H8.out.2.2.2.2.1.c9
    have i10 := H8.out.2.2.2.2.1.c10
    have i11 := H8.out.2.2.2.2.1.c11
    have i12 := H8.out.2.2.2.2.1.c12
    have i13 := H8.out.2.2.2.2.1.c13
    go_wp2_with fail
    refine (markEntR_any w8 V4.heap.size w5.heap.size c x s HX.out.h HX.out.b HX.out.t (by have := H8.out.2.2.2.2.2.2.2; have := K5.out.2.2.2.2.2; omega) H8.out.2.2.2.2.2.2.2 H8.out.2.2.2.2.2.1 K5.out.2.2.2.1).mono ?_
    rintro e0 w9 ⟨rfl, hb9, ha9, hh9⟩
    have H9 : Hid (Below w.heap.size w w9 ∧ S4 w9 w.heap.size (.int .i64 bu) (.int .i64 gu) (.slice ta tn tc) (.slice ka kn kc) ∧ E14 w9 w3.heap.size (.int .i64 c) (.string x.key) (.int .i64 x.st) (.slice r.ha x.hs.length r.hc) (.slice r.ba x.bl.length r.bc) (.int .i64 x.t) (.int .i64 x.g) (.int .i64 x.l) (.int .i64 x.s) (.int .i64 x.e) (.bool x.b1) (.bool x.b2) (.slice r.ta x.ts.length r.tc) (.int .i64 x.pins) ∧ EntIn w9 x r ∧ E14 w9 w5.heap.size (.int .i64 c) (.string x.key) (.int .i64 x.st) (.slice s.ha x.hs.length s.hc) (.slice s.ba x.bl.length s.bc) (.int .i64 x.t) (.int .i64 x.g) (.int .i64 x.l) (.int .i64 x.s) (.int .i64 x.e) (.bool x.b1) (.bool x.b2) (.slice s.ta x.ts.length s.tc) (.int .i64 x.pins) ∧ EntHeld w9 x s) := by
      have e4 := K4.out.2.2.2.2.2.size
      have d3 : Below V3.heap.size V3 w9 := H8.out.2.2.2.2.2.2.1.trans (hb9.mono e4)
      exact ⟨K3.out.1.trans (d3.mono K3.out.1.size), K3.out.2.1.keep d3, K3.out.2.2.1.keep d3, K3.out.2.2.2.keep d3, H8.out.2.2.2.2.1.above ha9 (Nat.le_refl _), hh9⟩
    clear hb9 ha9 hh9 H8 K3 K4 K5 i0 i1 i2 i3 i4 i5 i6 i7 i8 i9 i10 i11 i12 i13
    have gq : ¬ (nEnt x : Int) < 0 := by omega
    obtain ⟨N, hN⟩ : ∃ N : Int, (nEnt x : Int) = N := ⟨_, rfl⟩
    have HH : Hid (∀ X, EntHeld X x s → Calls Tryz.prog 39 #[.agg #[.int .i64 c, .string x.key, .int .i64 x.st, .slice s.ha x.hs.length s.hc, .slice s.ba x.bl.length s.bc, .int .i64 x.t, .int .i64 x.g, .int .i64 x.l, .int .i64 x.s, .int .i64 x.e, .bool x.b1, .bool x.b2, .slice s.ta x.ts.length s.tc, .int .i64 x.pins], .int .i64 1] X fun e w' => e = .returned (.int .i64 N) ∧ Below X.heap.size X w') := fun X h => by
      rw [← hN]; exact heldEntR_any X c x s HX.out.h HX.out.b HX.out.t h
    rw [hN] at gq ⊢
    clear hN
    have i0 := H9.out.2.2.2.2.1.c0
    have i1 := H9.out.2.2.2.2.1.c1
    have i2 := H9.out.2.2.2.2.1.c2
    have i3 := H9.out.2.2.2.2.1.c3
    have i4 := H9.out.2.2.2.2.1.c4
    have i5 := H9.out.2.2.2.2.1.c5
    have i6 := H9.out.2.2.2.2.1.c6
    have i7 := H9.out.2.2.2.2.1.c7
    have i8 := H9.out.2.2.2.2.1.c8
    have i9 := H9.out.2.2.2.2.1.c9
    have i10 := H9.out.2.2.2.2.1.c10
    have i11 := H9.out.2.2.2.2.1.c11
    have i12 := H9.out.2.2.2.2.1.c12
    have i13 := H9.out.2.2.2.2.1.c13
    go_wp2_with fail
    refine (HH.out _ H9.out.2.2.2.2.2).mono ?_
    rintro e0 wc ⟨rfl, hbc⟩
    have HC : Hid (Below w.heap.size w wc ∧ S4 wc w.heap.size (.int .i64 bu) (.int .i64 gu) (.slice ta tn tc) (.slice ka kn kc) ∧ E14 wc w3.heap.size (.int .i64 c) (.string x.key) (.int .i64 x.st) (.slice r.ha x.hs.length r.hc) (.slice r.ba x.bl.length r.bc) (.int .i64 x.t) (.int .i64 x.g) (.int .i64 x.l) (.int .i64 x.s) (.int .i64 x.e) (.bool x.b1) (.bool x.b2) (.slice r.ta x.ts.length r.tc) (.int .i64 x.pins) ∧ EntIn wc x r ∧ E14 wc w5.heap.size (.int .i64 c) (.string x.key) (.int .i64 x.st) (.slice s.ha x.hs.length s.hc) (.slice s.ba x.bl.length s.bc) (.int .i64 x.t) (.int .i64 x.g) (.int .i64 x.l) (.int .i64 x.s) (.int .i64 x.e) (.bool x.b1) (.bool x.b2) (.slice s.ta x.ts.length s.tc) (.int .i64 x.pins) ∧ EntHeld wc x s) := ⟨H9.out.1.trans (hbc.mono H9.out.1.size), H9.out.2.1.keep hbc, H9.out.2.2.1.keep hbc, H9.out.2.2.2.1.keep hbc, H9.out.2.2.2.2.1.keep hbc, H9.out.2.2.2.2.2.below hbc⟩
    clear hbc H9 i0 i1 i2 i3 i4 i5 i6 i7 i8 i9 i10 i11 i12 i13
    have y0 := HC.out.2.1.c0
    have y1 := HC.out.2.1.c1
    have y2 := HC.out.2.1.c2
    have y3 := HC.out.2.1.c3
    go_wp2_with fail
    refine (HT.out HF.out _ HC.out.1).mono ?_
    rintro r0 wd ⟨⟨J3, J4, rfl, md, _⟩, hbd⟩
    have HD : Hid (Below w.heap.size w wd ∧ E14 wd w3.heap.size (.int .i64 c) (.string x.key) (.int .i64 x.st) (.slice r.ha x.hs.length r.hc) (.slice r.ba x.bl.length r.bc) (.int .i64 x.t) (.int .i64 x.g) (.int .i64 x.l) (.int .i64 x.s) (.int .i64 x.e) (.bool x.b1) (.bool x.b2) (.slice r.ta x.ts.length r.tc) (.int .i64 x.pins) ∧ EntIn wd x r ∧ E14 wd w5.heap.size (.int .i64 c) (.string x.key) (.int .i64 x.st) (.slice s.ha x.hs.length s.hc) (.slice s.ba x.bl.length s.bc) (.int .i64 x.t) (.int .i64 x.g) (.int .i64 x.l) (.int .i64 x.s) (.int .i64 x.e) (.bool x.b1) (.bool x.b2) (.slice s.ta x.ts.length s.tc) (.int .i64 x.pins) ∧ EntHeld wd x s ∧ StoNew wd J3 J4 tl kl) := ⟨HC.out.1.trans (hbd.mono HC.out.1.size), HC.out.2.2.1.keep hbd, HC.out.2.2.2.1.keep hbd, HC.out.2.2.2.2.1.keep hbd, HC.out.2.2.2.2.2.below hbd, md⟩
    clear hbd HC y0 y1 y2 y3 HT md
    go_wp2_with fail
    refine (HG.out HF.out _ _ _ HD.out.1 HD.out.2.2.2.2.2).mono ?_
    rintro r0 we ⟨⟨t, rfl, ht⟩, hbe⟩
    obtain ⟨VE, hVE⟩ : ∃ V, V = we.alloc (.cells #[.int .i64 c, .string x.key, .int .i64 x.st, .slice t.ha x.hs.length t.hc, .slice t.ba x.bl.length t.bc, .int .i64 x.t, .int .i64 x.g, .int .i64 x.l, .int .i64 x.s, .int .i64 x.e, .bool x.b1, .bool x.b2, .slice t.ta x.ts.length t.tc, .int .i64 x.pins] 42) := ⟨_, rfl⟩
    have HVE : Hid (VE = we.alloc (.cells #[.int .i64 c, .string x.key, .int .i64 x.st, .slice t.ha x.hs.length t.hc, .slice t.ba x.bl.length t.bc, .int .i64 x.t, .int .i64 x.g, .int .i64 x.l, .int .i64 x.s, .int .i64 x.e, .bool x.b1, .bool x.b2, .slice t.ta x.ts.length t.tc, .int .i64 x.pins] 42)) := hVE
    have HEE : Hid (Below w.heap.size w VE ∧ E14 VE w3.heap.size (.int .i64 c) (.string x.key) (.int .i64 x.st) (.slice r.ha x.hs.length r.hc) (.slice r.ba x.bl.length r.bc) (.int .i64 x.t) (.int .i64 x.g) (.int .i64 x.l) (.int .i64 x.s) (.int .i64 x.e) (.bool x.b1) (.bool x.b2) (.slice r.ta x.ts.length r.tc) (.int .i64 x.pins) ∧ EntIn VE x r ∧ E14 VE w5.heap.size (.int .i64 c) (.string x.key) (.int .i64 x.st) (.slice s.ha x.hs.length s.hc) (.slice s.ba x.bl.length s.bc) (.int .i64 x.t) (.int .i64 x.g) (.int .i64 x.l) (.int .i64 x.s) (.int .i64 x.e) (.bool x.b1) (.bool x.b2) (.slice s.ta x.ts.length s.tc) (.int .i64 x.pins) ∧ EntHeld VE x s ∧ EntIn VE x t) := by
      have ae : Below we.heap.size we VE := by rw [hVE]; exact (Below.refl _ _).alloc (Nat.le_refl _) _
      have be := HD.out.1.trans (hbe.mono HD.out.1.size)
      exact ⟨be.trans (ae.mono be.size), (HD.out.2.1.keep hbe).keep ae, (HD.out.2.2.1.keep hbe).keep ae, (HD.out.2.2.2.1.keep hbe).keep ae, (HD.out.2.2.2.2.1.below hbe).below ae, ht.in.keep ae⟩
    clear hbe HD HG ht hVE
    have j0 := HEE.out.2.1.c0
    have j1 := HEE.out.2.1.c1
    have j2 := HEE.out.2.1.c2
    have j3 := HEE.out.2.1.c3
    have j4 := HEE.out.2.1.c4
    have j5 := HEE.out.2.1.c5
    have j6 := HEE.out.2.1.c6
    have j7 := HEE.out.2.1.c7
    have j8 := HEE.out.2.1.c8
    have j9 := HEE.out.2.1.c9
    have j10 := HEE.out.2.1.c10
    have j11 := HEE.out.2.1.c11
    have j12 := HEE.out.2.1.c12
    have j13 := HEE.out.2.1.c13
    rw [HVE.out] at j0 j1 j2 j3 j4 j5 j6 j7 j8 j9 j10 j11 j12 j13
    go_wp2_with fail
    rw [← HVE.out]
    refine (HE.out _ t r HEE.out.2.2.2.2.2 HEE.out.2.2.1).mono ?_
    rintro e0 wf ⟨rfl, hbf⟩
    have HFF : Hid (Below w.heap.size w wf ∧ E14 wf w5.heap.size (.int .i64 c) (.string x.key) (.int .i64 x.st) (.slice s.ha x.hs.length s.hc) (.slice s.ba x.bl.length s.bc) (.int .i64 x.t) (.int .i64 x.g) (.int .i64 x.l) (.int .i64 x.s) (.int .i64 x.e) (.bool x.b1) (.bool x.b2) (.slice s.ta x.ts.length s.tc) (.int .i64 x.pins) ∧ EntHeld wf x s) := ⟨HEE.out.1.trans (hbf.mono HEE.out.1.size), HEE.out.2.2.2.1.keep hbf, HEE.out.2.2.2.2.1.below hbf⟩
    clear hbf HEE HE HVE j0 j1 j2 j3 j4 j5 j6 j7 j8 j9 j10 j11 j12 j13
    have i0 := HFF.out.2.1.c0
    have i1 := HFF.out.2.1.c1
    have i2 := HFF.out.2.1.c2
    have i3 := HFF.out.2.1.c3
    have i4 := HFF.out.2.1.c4
    have i5 := HFF.out.2.1.c5
    have i6 := HFF.out.2.1.c6
    have i7 := HFF.out.2.1.c7
    have i8 := HFF.out.2.1.c8
    have i9 := HFF.out.2.1.c9
    have i10 := HFF.out.2.1.c10
    have i11 := HFF.out.2.1.c11
    have i12 := HFF.out.2.1.c12
    have i13 := HFF.out.2.1.c13
    go_wp2_with fail
    refine (HH.out _ HFF.out.2.2).mono ?_
    rintro e0 wg ⟨rfl, hbg⟩
    have HZZ : Hid (Below w.heap.size w wg) := HFF.out.1.trans (hbg.mono HFF.out.1.size)
    clear hbg HFF HH i0 i1 i2 i3 i4 i5 i6 i7 i8 i9 i10 i11 i12 i13
    go_wp2_with fail
    go_ret
    exact ⟨rfl, HZZ.out⟩
end Go.Proofs.YtelbddgdaibolaaGreatDoor
/-
  Head lines that came in, opened.
-/
namespace Go.Proofs.YtelbddgdaibolaaGreatDoor
open Go.ChangeShapes Go.WideShapes Go.ChangeAt Go.RowKit Go.Deep
theorem headerCells : Tryz.prog.cellsOf 172 = 2 := by kernel_rfl
theorem hOneS : Tryz.prog.cellsOf 9 = 1 := by kernel_rfl
theorem hdr_of {H : Type} {enc : TypeId × Value → H} {w : World} {base : Nat} {spare : Nat → Bool} {held : Bool} {fuel : Nat} {cs : List Value} {x : DataW H × List MemPlace}
    (h : DataW.trod enc Tryz.prog w base spare held fuel 172 cs = some x) : ∃ r : Hdr, cs = [.string r.name, .string r.value] ∧ r.name.size ≤ maxLen ∧ r.value.size ≤ maxLen := by
  obtain ⟨y0, y1, n, _, hl, h0, h2⟩ := trod_struct2 Tryz.underlying172 h
  rw [headerCells] at hl
  simp only [hOneS] at h0 h2
  obtain ⟨s0, e0, _, z0⟩ := DataW.trod_string Tryz.underlying9 h0
  obtain ⟨s2, e2, _, z2⟩ := DataW.trod_string Tryz.underlying9 h2
  match cs, hl with
  | [c0, c2], _ =>
    simp only [List.drop_zero, List.take_succ_cons, List.take_zero, List.drop_succ_cons, List.cons.injEq, and_true] at e0 e2
    exact ⟨⟨s0, s2⟩, by rw [e0, e2], z0, z2⟩
theorem open_headers {H : Type} {enc : TypeId × Value → H} {w : World} {base : Nat} {spare : Nat → Bool} {held : Bool} {fuel : Nat} {a : Option Addr} {len cap : Nat} {x : DataW H × List MemPlace}
    (h : DataW.trod enc Tryz.prog w base spare held fuel 69 [.slice a len cap] = some x) :
    ∃ l : List Hdr, l.length = len ∧ len ≤ maxLen ∧ SmallHdrs l ∧ (l = [] ∨ ∃ b off, a = some ⟨b, off, none⟩ ∧ HeadsAt w b off l) := by
  rcases open_slice Tryz.underlying69 h with ⟨hcs, _⟩ | ⟨A, len', cap', m, n, D, Pl, hcs, _, hl, hm, hmm, _, hel⟩
  · simp only [List.cons.injEq, Value.slice.injEq, and_true] at hcs
    obtain ⟨_, rfl, _⟩ := hcs
    exact ⟨[], rfl, by unfold maxLen; omega, fun i r hr => by simp at hr, .inl rfl⟩
  · simp only [List.cons.injEq, Value.slice.injEq, and_true] at hcs
    obtain ⟨rfl, rfl, rfl⟩ := hcs
    have hlm : len ≤ m := by rw [hmm]; split <;> omega
    have hrec : ∀ i, i < len → ∃ r : Hdr, w.cells? base (A.add (i * 2)) 2 = some [.string r.name, .string r.value] ∧ r.name.size ≤ maxLen ∧ r.value.size ≤ maxLen := by
      intro i hi
      obtain ⟨cs', hc, ht⟩ := hel i (by omega)
      rw [headerCells] at hc
      obtain ⟨r, rfl, z⟩ := hdr_of ht
      exact ⟨r, hc, z⟩
    obtain ⟨f, hf⟩ : ∃ f : Nat → Hdr, ∀ i, i < len → w.cells? base (A.add (i * 2)) 2 = some [.string (f i).name, .string (f i).value] ∧ (f i).name.size ≤ maxLen ∧ (f i).value.size ≤ maxLen := by
      classical
      refine ⟨fun i => if hi : i < len then (hrec i hi).choose else ⟨.empty, .empty⟩, fun i hi => ?_⟩
      simp only [dif_pos hi]
      exact (hrec i hi).choose_spec
    refine ⟨(List.range len).map f, by simp, by omega, ?_, ?_⟩
    · intro i r hr
      rw [List.getElem?_map] at hr
      obtain ⟨j, hj, rfl⟩ := Option.map_eq_some_iff.1 hr
      obtain ⟨hlt, rfl⟩ := List.getElem?_eq_some_iff.1 hj
      simp at hlt
      simpa using (hf i hlt).2
    · by_cases h0 : len = 0
      · subst h0; exact .inl rfl
      · obtain ⟨b, off, spot⟩ := A
        have cells : ∀ i, i < len → ∀ j, j < 2 → w.cell? ((⟨b, off, spot⟩ : Addr).add (i * 2 + j)) = ([.string (f i).name, .string (f i).value] : List Value)[j]? := by
          intro i hi j hj
          have c := (World.cells?_some (hf i hi).1).2.2 j hj
          rw [add_add] at c
          exact c
        have hs : spot = none := by
          have c := cells 0 (by omega) 0 (by omega)
          simp only [Nat.zero_mul, Nat.add_zero, List.getElem?_cons_zero] at c
          simpa [Addr.add] using World.cell?_spot c
        subst hs
        have hadd : ∀ i, (⟨b, off, none⟩ : Addr).add i = ⟨b, off + i, none⟩ := fun i => by unfold Addr.add; split <;> simp_all
        refine .inr ⟨b, off, rfl, fun i r hr => ?_⟩
        rw [List.getElem?_map] at hr
        obtain ⟨j, hj, rfl⟩ := Option.map_eq_some_iff.1 hr
        obtain ⟨hlt, rfl⟩ := List.getElem?_eq_some_iff.1 hj
        simp only [List.length_range] at hlt
        simp only [List.getElem_range]
        have q0 := cells i hlt 0 (by omega)
        have q1 := cells i hlt 1 (by omega)
        rw [hadd] at q0 q1
        exact ⟨by simpa using q0, by simpa [Nat.add_assoc] using q1⟩
end Go.Proofs.YtelbddgdaibolaaGreatDoor
/-
  A request and a response that came in by value, opened.
-/
namespace Go.Proofs.YtelbddgdaibolaaGreatDoor
open Go.ChangeShapes Go.WideShapes Go.ChangeAt Go.RowKit Go.Deep
theorem headsOne : Tryz.prog.cellsOf 69 = 1 := by kernel_rfl
theorem slice_cs {H : Type} {enc : TypeId × Value → H} {w : World} {base : Nat} {spare : Nat → Bool} {held : Bool} {fuel : Nat} {cs : List Value} {t e : TypeId} {x : DataW H × List MemPlace}
    (hu : Tryz.prog.underlying t = some (.slice e)) (h : DataW.trod enc Tryz.prog w base spare held fuel t cs = some x) : ∃ a len cap, cs = [.slice a len cap] := by
  rcases open_slice hu h with ⟨hcs, _⟩ | ⟨A, len', cap', m, n, D, Pl, hcs, _⟩
  · exact ⟨_, _, _, hcs⟩
  · exact ⟨_, _, _, hcs⟩
end Go.Proofs.YtelbddgdaibolaaGreatDoor
/-
  A response, a row of bytes, a list of texts that came in, opened.
-/
namespace Go.Proofs.YtelbddgdaibolaaGreatDoor
open Go.ChangeShapes Go.WideShapes Go.ChangeAt Go.RowKit Go.Deep
theorem bytesOne : Tryz.prog.cellsOf 5 = 1 := by kernel_rfl
theorem open_bytes {H : Type} {enc : TypeId × Value → H} {w : World} {base : Nat} {spare : Nat → Bool} {held : Bool} {fuel : Nat} {a : Option Addr} {len cap : Nat} {x : DataW H × List MemPlace}
    (h : DataW.trod enc Tryz.prog w base spare held fuel 22 [.slice a len cap] = some x) : ∃ l : List UInt8, l.length = len ∧ len ≤ maxLen ∧ BIn w a l := by
  rcases open_ints Tryz.underlying22 Tryz.underlying5 bytesOne h with ⟨hcs, _⟩ | ⟨A, l', c', zs, hcs, _, hl, hm, hz, _, hcell, hwz⟩
  · simp only [List.cons.injEq, Value.slice.injEq, and_true] at hcs
    obtain ⟨_, rfl, _⟩ := hcs
    exact ⟨[], rfl, by unfold maxLen; omega, .inl rfl⟩
  · simp only [List.cons.injEq, Value.slice.injEq, and_true] at hcs
    obtain ⟨rfl, rfl, rfl⟩ := hcs
    have hlz : len ≤ zs.length := by rw [hz]; split <;> omega
    refine ⟨(zs.take len).map fun z => UInt8.ofNat z.toNat, by simp; omega, by omega, ?_⟩
    by_cases h0 : len = 0
    · subst h0; exact .inl rfl
    · obtain ⟨b, off, spot⟩ := A
      have hc := hcell 0 (by omega)
      have hspot : spot = none := by simpa [Addr.add] using World.cell?_spot hc
      subst hspot
      have hadd : ∀ i, (⟨b, off, none⟩ : Addr).add i = ⟨b, off + i, none⟩ := fun i => by unfold Addr.add; split <;> simp_all
      refine .inr ⟨b, off, rfl, fun i c hr => ?_⟩
      rw [List.getElem?_map] at hr
      obtain ⟨z, hz1, rfl⟩ := Option.map_eq_some_iff.1 hr
      have hi : i < len := by have := (List.getElem?_eq_some_iff.1 hz1).1; simp at this; omega
      rw [List.getElem?_take_of_lt hi] at hz1
      have h1 := hcell i (by omega)
      rw [hadd, List.getD_eq_getElem?_getD, hz1] at h1
      rw [h1]
      have hw := hwz z (List.mem_of_getElem? hz1)
      simp only [Lit.wf, Bool.and_eq_true, decide_eq_true_eq] at hw
      have w1 : 0 ≤ z := hw.1
      have w2 : z ≤ 255 := hw.2
      have e : ((UInt8.ofNat z.toNat).toNat : Int) = z := by
        rw [UInt8.toNat_ofNat']
        omega
      rw [e]; rfl
theorem byteSOne : Tryz.prog.cellsOf 22 = 1 := by kernel_rfl
theorem intOne : Tryz.prog.cellsOf 2 = 1 := by kernel_rfl
end Go.Proofs.YtelbddgdaibolaaGreatDoor
/-
  A list of texts that came in, opened.
-/
namespace Go.Proofs.YtelbddgdaibolaaGreatDoor
open Go.ChangeShapes Go.WideShapes Go.ChangeAt Go.RowKit Go.Deep
theorem textOne : Tryz.prog.cellsOf 9 = 1 := by kernel_rfl
theorem open_texts {H : Type} {enc : TypeId × Value → H} {w : World} {base : Nat} {spare : Nat → Bool} {held : Bool} {fuel : Nat} {a : Option Addr} {len cap : Nat} {x : DataW H × List MemPlace}
    (h : DataW.trod enc Tryz.prog w base spare held fuel 30 [.slice a len cap] = some x) : ∃ l : List ByteArray, l.length = len ∧ len ≤ maxLen ∧ (∀ x ∈ l, x.size ≤ maxLen) ∧ TIn w a l := by
  rcases open_slice Tryz.underlying30 h with ⟨hcs, _⟩ | ⟨A, len', cap', m, n, D, Pl, hcs, _, hl, hm, hmm, _, hel⟩
  · simp only [List.cons.injEq, Value.slice.injEq, and_true] at hcs
    obtain ⟨_, rfl, _⟩ := hcs
    exact ⟨[], rfl, by unfold maxLen; omega, (fun x hx => by cases hx), .inl rfl⟩
  · simp only [List.cons.injEq, Value.slice.injEq, and_true] at hcs
    obtain ⟨rfl, rfl, rfl⟩ := hcs
    have hlm : len ≤ m := by rw [hmm]; split <;> omega
    have hrec : ∀ i, i < len → ∃ r : ByteArray, w.cells? base (A.add (i * 1)) 1 = some [.string r] ∧ r.size ≤ maxLen := by
      intro i hi
      obtain ⟨cs', hc, ht⟩ := hel i (by omega)
      rw [textOne] at hc
      obtain ⟨r, e, _, z⟩ := DataW.trod_string Tryz.underlying9 ht
      exact ⟨r, by rw [hc, e], z⟩
    obtain ⟨f, hf⟩ : ∃ f : Nat → ByteArray, ∀ i, i < len → w.cells? base (A.add (i * 1)) 1 = some [.string (f i)] ∧ (f i).size ≤ maxLen := by
      classical
      refine ⟨fun i => if hi : i < len then (hrec i hi).choose else .empty, fun i hi => ?_⟩
      simp only [dif_pos hi]
      exact (hrec i hi).choose_spec
    refine ⟨(List.range len).map f, by simp, by omega, ?_, ?_⟩
    · intro x hx
      obtain ⟨i, hi, rfl⟩ := List.mem_map.1 hx
      exact (hf i (by simpa using hi)).2
    · by_cases h0 : len = 0
      · subst h0; exact .inl rfl
      · obtain ⟨b, off, spot⟩ := A
        have cells : ∀ i, i < len → w.cell? ((⟨b, off, spot⟩ : Addr).add i) = some (.string (f i)) := by
          intro i hi
          have c := (World.cells?_some (hf i hi).1).2.2 0 (by omega)
          rw [add_add] at c
          simpa using c
        have hs : spot = none := by
          have c := cells 0 (by omega)
          simpa [Addr.add] using World.cell?_spot c
        subst hs
        have hadd : ∀ i, (⟨b, off, none⟩ : Addr).add i = ⟨b, off + i, none⟩ := fun i => by unfold Addr.add; split <;> simp_all
        refine .inr ⟨b, off, rfl, fun i r hr => ?_⟩
        rw [List.getElem?_map] at hr
        obtain ⟨j, hj, rfl⟩ := Option.map_eq_some_iff.1 hr
        obtain ⟨hlt, rfl⟩ := List.getElem?_eq_some_iff.1 hj
        simp only [List.length_range] at hlt
        simp only [List.getElem_range]
        have q0 := cells i hlt
        rw [hadd] at q0
        exact q0
end Go.Proofs.YtelbddgdaibolaaGreatDoor
/-
  What is kept with an answer, as it came in by value, opened.
-/
namespace Go.Proofs.YtelbddgdaibolaaGreatDoor
open Go.ChangeShapes Go.WideShapes Go.ChangeAt Go.RowKit
theorem metaCells : Tryz.prog.cellsOf 70 = 7 := by kernel_rfl
theorem oneIm : Tryz.prog.cellsOf 2 = 1 := by kernel_rfl
theorem oneBm : Tryz.prog.cellsOf 4 = 1 := by kernel_rfl
set_option maxRecDepth 100000 in
theorem open_meta {H : Type} {enc : TypeId × Value → H} {w : World} {r : Reach} {b0 base : Nat} {spare : Nat → Bool} {held : Bool} {v : Value} {d : DataW H} {p : List MemPlace}
    (hv : Value.okWide Tryz.prog w r b0 70 v) (h : DataW.Trod enc Tryz.prog w base spare held 70 v d p) :
    ∃ (u : Int × Int × Int × Int × Int) (t : Bool × Bool), v = .agg #[.int .i64 u.1, .int .i64 u.2.1, .int .i64 u.2.2.1, .int .i64 u.2.2.2.1, .int .i64 u.2.2.2.2, .bool t.1, .bool t.2] := by
  obtain ⟨cs, rfl, hsz⟩ := okWide_struct Tryz.underlying70 hv
  obtain ⟨fuel, hf0⟩ := h
  obtain ⟨xs, n, _, _, hl, hlen, hf⟩ := DataW.trod_struct Tryz.underlying70 hf0
  match xs, hlen with
  | [y0, y1, y2, y3, y4, y5, y6], _ =>
    have h0 : DataW.trod enc Tryz.prog w base spare held n 2 (((Value.agg cs).cells.toList.drop 0).take (Tryz.prog.cellsOf 2)) = some y0 := hf 0 _ rfl
    have h1 : DataW.trod enc Tryz.prog w base spare held n 2 (((Value.agg cs).cells.toList.drop 1).take (Tryz.prog.cellsOf 2)) = some y1 := hf 1 _ rfl
    have h2 : DataW.trod enc Tryz.prog w base spare held n 2 (((Value.agg cs).cells.toList.drop 2).take (Tryz.prog.cellsOf 2)) = some y2 := hf 2 _ rfl
    have h3 : DataW.trod enc Tryz.prog w base spare held n 2 (((Value.agg cs).cells.toList.drop 3).take (Tryz.prog.cellsOf 2)) = some y3 := hf 3 _ rfl
    have h4 : DataW.trod enc Tryz.prog w base spare held n 2 (((Value.agg cs).cells.toList.drop 4).take (Tryz.prog.cellsOf 2)) = some y4 := hf 4 _ rfl
    have h5 : DataW.trod enc Tryz.prog w base spare held n 4 (((Value.agg cs).cells.toList.drop 5).take (Tryz.prog.cellsOf 4)) = some y5 := hf 5 _ rfl
    have h6 : DataW.trod enc Tryz.prog w base spare held n 4 (((Value.agg cs).cells.toList.drop 6).take (Tryz.prog.cellsOf 4)) = some y6 := hf 6 _ rfl
    rw [oneIm] at h0 h1 h2 h3 h4
    rw [oneBm] at h5 h6
    obtain ⟨s0, e0, _⟩ := DataW.trod_int Tryz.underlying2 h0
    obtain ⟨s1, e1, _⟩ := DataW.trod_int Tryz.underlying2 h1
    obtain ⟨s2, e2, _⟩ := DataW.trod_int Tryz.underlying2 h2
    obtain ⟨s3, e3, _⟩ := DataW.trod_int Tryz.underlying2 h3
    obtain ⟨s4, e4, _⟩ := DataW.trod_int Tryz.underlying2 h4
    obtain ⟨s5, e5, _⟩ := DataW.trod_bool Tryz.underlying4 h5
    obtain ⟨s6, e6, _⟩ := DataW.trod_bool Tryz.underlying4 h6
    refine ⟨(s0, s1, s2, s3, s4), (s5, s6), ?_⟩
    have e : cs.toList = [.int .i64 s0, .int .i64 s1, .int .i64 s2, .int .i64 s3, .int .i64 s4, .bool s5, .bool s6] := by
      simp only [Value.cells] at e0 e1 e2 e3 e4 e5 e6 hl
      rw [metaCells] at hl
      match hc : cs.toList, hl with
      | [c0, c1, c2, c3, c4, c5, c6], _ =>
        rw [hc] at e0 e1 e2 e3 e4 e5 e6
        simp only [List.drop_zero, List.take_succ_cons, List.take_zero, List.drop_succ_cons, List.cons.injEq, and_true] at e0 e1 e2 e3 e4 e5 e6
        rw [e0, e1, e2, e3, e4, e5, e6]
    congr 1
    exact Array.toList_inj.1 e
end Go.Proofs.YtelbddgdaibolaaGreatDoor
/-
  An entry that came in, and entries, opened.
-/
namespace Go.Proofs.YtelbddgdaibolaaGreatDoor
open Go.ChangeShapes Go.WideShapes Go.ChangeAt Go.RowKit Go.Deep
theorem entCells : Tryz.prog.cellsOf 72 = 13 := by kernel_rfl
theorem eOneS : Tryz.prog.cellsOf 9 = 1 := by kernel_rfl
theorem eOneI : Tryz.prog.cellsOf 2 = 1 := by kernel_rfl
theorem eOneB : Tryz.prog.cellsOf 4 = 1 := by kernel_rfl
theorem eOneH : Tryz.prog.cellsOf 69 = 1 := by kernel_rfl
theorem eOneU : Tryz.prog.cellsOf 22 = 1 := by kernel_rfl
theorem eOneT : Tryz.prog.cellsOf 30 = 1 := by kernel_rfl
theorem eMeta : Tryz.prog.cellsOf 70 = 7 := by kernel_rfl
theorem slice_cap {H : Type} {enc : TypeId × Value → H} {P : Program} {w : World} {base : Nat} {spare : Nat → Bool} {held : Bool} {fuel : Nat} {t e : TypeId} {a : Option Addr} {n c : Nat} {x : DataW H × List MemPlace} (ht : P.underlying t = some (.slice e))
    (h : DataW.trod enc P w base spare held fuel t [.slice a n c] = some x) : n ≤ c := by
  rcases open_slice ht h with ⟨hcs, _⟩ | ⟨A, len', cap', m, n', D, Pl, hcs, _, hl, _⟩
  · simp only [List.cons.injEq, Value.slice.injEq, and_true] at hcs
    omega
  · simp only [List.cons.injEq, Value.slice.injEq, and_true] at hcs
    omega
set_option maxRecDepth 100000 in
theorem meta_cs {H : Type} {enc : TypeId × Value → H} {w : World} {base : Nat} {spare : Nat → Bool} {held : Bool} {fuel : Nat} {cs : List Value} {x : DataW H × List MemPlace}
    (h : DataW.trod enc Tryz.prog w base spare held fuel 70 cs = some x) : ∃ (t g l s e : Int) (b1 b2 : Bool), cs = [.int .i64 t, .int .i64 g, .int .i64 l, .int .i64 s, .int .i64 e, .bool b1, .bool b2] := by
  obtain ⟨xs, n, _, _, hl, hlen, hf⟩ := DataW.trod_struct Tryz.underlying70 h
  match xs, hlen with
  | [y0, y1, y2, y3, y4, y5, y6], _ =>
    have h0 : DataW.trod enc Tryz.prog w base spare held n 2 ((cs.drop 0).take (Tryz.prog.cellsOf 2)) = some y0 := hf 0 _ rfl
    have h1 : DataW.trod enc Tryz.prog w base spare held n 2 ((cs.drop 1).take (Tryz.prog.cellsOf 2)) = some y1 := hf 1 _ rfl
    have h2 : DataW.trod enc Tryz.prog w base spare held n 2 ((cs.drop 2).take (Tryz.prog.cellsOf 2)) = some y2 := hf 2 _ rfl
    have h3 : DataW.trod enc Tryz.prog w base spare held n 2 ((cs.drop 3).take (Tryz.prog.cellsOf 2)) = some y3 := hf 3 _ rfl
    have h4 : DataW.trod enc Tryz.prog w base spare held n 2 ((cs.drop 4).take (Tryz.prog.cellsOf 2)) = some y4 := hf 4 _ rfl
    have h5 : DataW.trod enc Tryz.prog w base spare held n 4 ((cs.drop 5).take (Tryz.prog.cellsOf 4)) = some y5 := hf 5 _ rfl
    have h6 : DataW.trod enc Tryz.prog w base spare held n 4 ((cs.drop 6).take (Tryz.prog.cellsOf 4)) = some y6 := hf 6 _ rfl
    rw [eOneI] at h0 h1 h2 h3 h4
    rw [eOneB] at h5 h6
    obtain ⟨s0, e0, _⟩ := DataW.trod_int Tryz.underlying2 h0
    obtain ⟨s1, e1, _⟩ := DataW.trod_int Tryz.underlying2 h1
    obtain ⟨s2, e2, _⟩ := DataW.trod_int Tryz.underlying2 h2
    obtain ⟨s3, e3, _⟩ := DataW.trod_int Tryz.underlying2 h3
    obtain ⟨s4, e4, _⟩ := DataW.trod_int Tryz.underlying2 h4
    obtain ⟨s5, e5, _⟩ := DataW.trod_bool Tryz.underlying4 h5
    obtain ⟨s6, e6, _⟩ := DataW.trod_bool Tryz.underlying4 h6
    refine ⟨s0, s1, s2, s3, s4, s5, s6, ?_⟩
    rw [eMeta] at hl
    match cs, hl with
    | [c0, c1, c2, c3, c4, c5, c6], _ =>
      simp only [List.drop_zero, List.take_succ_cons, List.take_zero, List.drop_succ_cons, List.cons.injEq, and_true] at e0 e1 e2 e3 e4 e5 e6
      rw [e0, e1, e2, e3, e4, e5, e6]
set_option maxRecDepth 100000 in
theorem ent_of {H : Type} {enc : TypeId × Value → H} {w : World} {base : Nat} {spare : Nat → Bool} {held : Bool} {fuel : Nat} {cs : List Value} {x : DataW H × List MemPlace}
    (h : DataW.trod enc Tryz.prog w base spare held fuel 72 cs = some x) : ∃ (q : Ent) (r : EntR), cs = entW q r ∧ EntIn w q r ∧ EntSm q := by
  obtain ⟨xs, n, _, _, hl, hlen, hf⟩ := DataW.trod_struct Tryz.underlying72 h
  match xs, hlen with
  | [y0, y1, y2, y3, y4, y5, y6], _ =>
    have h0 : DataW.trod enc Tryz.prog w base spare held n 9 ((cs.drop 0).take (Tryz.prog.cellsOf 9)) = some y0 := hf 0 _ rfl
    have h1 : DataW.trod enc Tryz.prog w base spare held n 2 ((cs.drop 1).take (Tryz.prog.cellsOf 2)) = some y1 := hf 1 _ rfl
    have h2 : DataW.trod enc Tryz.prog w base spare held n 69 ((cs.drop 2).take (Tryz.prog.cellsOf 69)) = some y2 := hf 2 _ rfl
    have h3 : DataW.trod enc Tryz.prog w base spare held n 22 ((cs.drop 3).take (Tryz.prog.cellsOf 22)) = some y3 := hf 3 _ rfl
    have h4 : DataW.trod enc Tryz.prog w base spare held n 70 ((cs.drop 4).take (Tryz.prog.cellsOf 70)) = some y4 := hf 4 _ rfl
    have h5 : DataW.trod enc Tryz.prog w base spare held n 30 ((cs.drop 11).take (Tryz.prog.cellsOf 30)) = some y5 := hf 5 _ rfl
    have h6 : DataW.trod enc Tryz.prog w base spare held n 2 ((cs.drop 12).take (Tryz.prog.cellsOf 2)) = some y6 := hf 6 _ rfl
    rw [eOneS] at h0
    rw [eOneI] at h1 h6
    rw [eOneH] at h2
    rw [eOneU] at h3
    rw [eMeta] at h4
    rw [eOneT] at h5
    obtain ⟨s0, e0, _, z0⟩ := DataW.trod_string Tryz.underlying9 h0
    obtain ⟨s1, e1, _⟩ := DataW.trod_int Tryz.underlying2 h1
    obtain ⟨ha, hn, hc, e2⟩ := slice_cs Tryz.underlying69 h2
    rw [e2] at h2
    obtain ⟨l, rfl, m2, sm2, o2⟩ := open_headers h2
    obtain ⟨ba, bn, bc, e3⟩ := slice_cs Tryz.underlying22 h3
    rw [e3] at h3
    obtain ⟨bl, rfl, m3, o3⟩ := open_bytes h3
    obtain ⟨t, g, li, s, e, b1, b2, e4⟩ := meta_cs h4
    obtain ⟨ta, tn, tc, e5⟩ := slice_cs Tryz.underlying30 h5
    rw [e5] at h5
    obtain ⟨ts, rfl, m5, sm5, o5⟩ := open_texts h5
    obtain ⟨s6, e6, _⟩ := DataW.trod_int Tryz.underlying2 h6
    refine ⟨⟨s0, s1, l, bl, t, g, li, s, e, b1, b2, ts, s6⟩, ⟨ha, hc, ba, bc, ta, tc⟩, ?_, ⟨o2, o3, o5, slice_cap Tryz.underlying69 h2, slice_cap Tryz.underlying22 h3, slice_cap Tryz.underlying30 h5⟩, ⟨z0, m2, sm2, m3, m5, sm5⟩⟩
    rw [entCells] at hl
    match cs, hl with
    | [c0, c1, c2, c3, c4, c5, c6, c7, c8, c9, c10, c11, c12], _ =>
      simp only [List.drop_zero, List.take_succ_cons, List.take_zero, List.drop_succ_cons, List.cons.injEq, and_true] at e0 e1 e2 e3 e4 e5 e6
      obtain ⟨f4, f5, f6, f7, f8, f9, f10⟩ := e4
      rw [e0, e1, e2, e3, f4, f5, f6, f7, f8, f9, f10, e5, e6]
      rfl
set_option maxRecDepth 100000 in
theorem open_entry {H : Type} {enc : TypeId × Value → H} {w : World} {r : Reach} {b0 base : Nat} {spare : Nat → Bool} {held : Bool} {v : Value} {d : DataW H} {p : List MemPlace}
    (hv : Value.okWide Tryz.prog w r b0 72 v) (h : DataW.Trod enc Tryz.prog w base spare held 72 v d p) : ∃ (q : Ent) (r : EntR), v = entV q r ∧ EntIn w q r ∧ EntSm q := by
  obtain ⟨cs, rfl, hsz⟩ := okWide_struct Tryz.underlying72 hv
  obtain ⟨fuel, hf0⟩ := h
  obtain ⟨q, r, e, h1, h2⟩ := ent_of hf0
  refine ⟨q, r, ?_, h1, h2⟩
  simp only [Value.cells] at e
  show Value.agg cs = .agg _
  congr 1
  exact Array.toList_inj.1 e
set_option maxRecDepth 100000 in
theorem open_entries {H : Type} {enc : TypeId × Value → H} {w : World} {base : Nat} {spare : Nat → Bool} {held : Bool} {fuel : Nat} {a : Option Addr} {len cap : Nat} {x : DataW H × List MemPlace}
    (h : DataW.trod enc Tryz.prog w base spare held fuel 58 [.slice a len cap] = some x) :
    ∃ l : List (Ent × EntR), l.length = len ∧ len ≤ maxLen ∧ len ≤ cap ∧ (∀ q ∈ l, EntSm q.1) ∧ EntsIn w a l := by
  have hcap := slice_cap Tryz.underlying58 h
  rcases open_slice Tryz.underlying58 h with ⟨hcs, _⟩ | ⟨A, len', cap', m, n, D, Pl, hcs, _, hl, hm, hmm, _, hel⟩
  · simp only [List.cons.injEq, Value.slice.injEq, and_true] at hcs
    obtain ⟨_, rfl, _⟩ := hcs
    exact ⟨[], rfl, by unfold maxLen; omega, hcap, fun q hq => by simp at hq, .inl rfl⟩
  · simp only [List.cons.injEq, Value.slice.injEq, and_true] at hcs
    obtain ⟨rfl, rfl, rfl⟩ := hcs
    have hlm : len ≤ m := by rw [hmm]; split <;> omega
    have hrec : ∀ i, i < len → ∃ q : Ent × EntR, w.cells? base (A.add (i * 13)) 13 = some (entW q.1 q.2) ∧ EntIn w q.1 q.2 ∧ EntSm q.1 := by
      intro i hi
      obtain ⟨cs', hc, ht⟩ := hel i (by omega)
      rw [entCells] at hc
      obtain ⟨q, r, rfl, z⟩ := ent_of ht
      exact ⟨(q, r), hc, z⟩
    obtain ⟨f, hf⟩ : ∃ f : Nat → Ent × EntR, ∀ i, i < len → w.cells? base (A.add (i * 13)) 13 = some (entW (f i).1 (f i).2) ∧ EntIn w (f i).1 (f i).2 ∧ EntSm (f i).1 := by
      classical
      refine ⟨fun i => if hi : i < len then (hrec i hi).choose else (⟨.empty, 0, [], [], 0, 0, 0, 0, 0, false, false, [], 0⟩, ⟨none, 0, none, 0, none, 0⟩), fun i hi => ?_⟩
      simp only [dif_pos hi]
      exact (hrec i hi).choose_spec
    refine ⟨(List.range len).map f, by simp, by omega, hcap, ?_, ?_⟩
    · intro q hq
      obtain ⟨i, hi, rfl⟩ := List.mem_map.1 hq
      exact (hf i (by simpa using hi)).2.2
    · by_cases h0 : len = 0
      · subst h0; exact .inl rfl
      · obtain ⟨b, off, spot⟩ := A
        have cells : ∀ i, i < len → ∀ j, j < 13 → w.cell? ((⟨b, off, spot⟩ : Addr).add (i * 13 + j)) = (entW (f i).1 (f i).2)[j]? := by
          intro i hi j hj
          have c := (World.cells?_some (hf i hi).1).2.2 j hj
          rw [add_add] at c
          exact c
        have hs : spot = none := by
          have c := cells 0 (by omega) 0 (by omega)
          simp only [Nat.zero_mul, Nat.add_zero, entW, List.getElem?_cons_zero] at c
          simpa [Addr.add] using World.cell?_spot c
        subst hs
        have hadd : ∀ i, (⟨b, off, none⟩ : Addr).add i = ⟨b, off + i, none⟩ := fun i => by unfold Addr.add; split <;> simp_all
        refine .inr ⟨b, off, rfl, fun i q hq => ?_⟩
        rw [List.getElem?_map] at hq
        obtain ⟨j, hj, rfl⟩ := Option.map_eq_some_iff.1 hq
        obtain ⟨hlt, rfl⟩ := List.getElem?_eq_some_iff.1 hj
        simp only [List.length_range] at hlt
        simp only [List.getElem_range]
        refine ⟨fun j hj => ?_, (hf i hlt).2.1⟩
        have q0 := cells i hlt j hj
        rw [hadd, ← Nat.add_assoc] at q0
        exact q0
end Go.Proofs.YtelbddgdaibolaaGreatDoor
/-
  A store that came in, opened.
-/
namespace Go.Proofs.YtelbddgdaibolaaGreatDoor
open Go.ChangeShapes Go.WideShapes Go.ChangeAt Go.RowKit Go.Deep
theorem stoCells : Tryz.prog.cellsOf 60 = 4 := by kernel_rfl
theorem eOneE : Tryz.prog.cellsOf 58 = 1 := by kernel_rfl
set_option maxRecDepth 100000 in
theorem open_store {H : Type} {enc : TypeId × Value → H} {w : World} {r : Reach} {b0 base : Nat} {spare : Nat → Bool} {held : Bool} {v : Value} {d : DataW H} {p : List MemPlace}
    (hv : Value.okWide Tryz.prog w r b0 60 v) (h : DataW.Trod enc Tryz.prog w base spare held 60 v d p) : ∃ (bu gu : Int) (ta ka : Option Addr) (tc kc : Nat) (tl kl : List (Ent × EntR)), v = .agg #[.int .i64 bu, .int .i64 gu, .slice ta tl.length tc, .slice ka kl.length kc] ∧ StoArg w ta ka tl kl := by
  obtain ⟨cs, rfl, hsz⟩ := okWide_struct Tryz.underlying60 hv
  obtain ⟨fuel, hf0⟩ := h
  obtain ⟨xs, n, _, _, hl, hlen, hf⟩ := DataW.trod_struct Tryz.underlying60 hf0
  match xs, hlen with
  | [y0, y1, y2, y3], _ =>
    have h0 : DataW.trod enc Tryz.prog w base spare held n 2 ((cs.toList.drop 0).take (Tryz.prog.cellsOf 2)) = some y0 := hf 0 _ rfl
    have h1 : DataW.trod enc Tryz.prog w base spare held n 2 ((cs.toList.drop 1).take (Tryz.prog.cellsOf 2)) = some y1 := hf 1 _ rfl
    have h2 : DataW.trod enc Tryz.prog w base spare held n 58 ((cs.toList.drop 2).take (Tryz.prog.cellsOf 58)) = some y2 := hf 2 _ rfl
    have h3 : DataW.trod enc Tryz.prog w base spare held n 58 ((cs.toList.drop 3).take (Tryz.prog.cellsOf 58)) = some y3 := hf 3 _ rfl
    rw [eOneI] at h0 h1
    rw [eOneE] at h2 h3
    obtain ⟨s0, e0, _⟩ := DataW.trod_int Tryz.underlying2 h0
    obtain ⟨s1, e1, _⟩ := DataW.trod_int Tryz.underlying2 h1
    obtain ⟨ta, tn, tc, e2⟩ := slice_cs Tryz.underlying58 h2
    rw [e2] at h2
    obtain ⟨tl, rfl, m2, _, sm2, o2⟩ := open_entries h2
    obtain ⟨ka, kn, kc, e3⟩ := slice_cs Tryz.underlying58 h3
    rw [e3] at h3
    obtain ⟨kl, rfl, m3, _, sm3, o3⟩ := open_entries h3
    refine ⟨s0, s1, ta, ka, tc, kc, tl, kl, ?_, ⟨o2, o3, m2, m3, sm2, sm3⟩⟩
    have hl' : cs.toList.length = 4 := by rw [stoCells] at hl; exact hl
    have key : cs.toList = [.int .i64 s0, .int .i64 s1, .slice ta tl.length tc, .slice ka kl.length kc] := by
      generalize cs.toList = c at *
      match c, hl' with
      | [c0, c1, c2, c3], _ =>
        simp only [List.drop_zero, List.take_succ_cons, List.take_zero, List.drop_succ_cons, List.cons.injEq, and_true] at e0 e1 e2 e3
        rw [e0, e1, e2, e3]
    show Value.agg cs = .agg _
    congr 1
    exact Array.toList_inj.1 key
end Go.Proofs.YtelbddgdaibolaaGreatDoor
