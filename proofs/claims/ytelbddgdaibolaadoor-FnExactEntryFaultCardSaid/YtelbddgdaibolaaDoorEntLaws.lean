/-
  Entries, handed over by the laws: how much room they take, copies, comparisons.
-/
import Derived.Test.YtelbddgdaibolaaDoorEntAt
import Derived.Test.YtelbddgdaibolaaDoorThirTeen
import Derived.Test.YtelbddgdaibolaaDoorToMeta
import Derived.Test.YtelbddgdaibolaaDoorEqMeta
import Derived.Test.YtelbddgdaibolaaDoorHeadsTo
import Derived.Test.YtelbddgdaibolaaDoorHeadsSame
import Derived.Deep.CutRange
namespace Go.Proofs.YtelbddgdaibolaaDoor
open Go.ChangeShapes Go.WideShapes Go.ChangeAt Go.RowKit Go.Sort
/-- How much room is left behind an entry; -1: none. -/
def szE (left : Int) (key : ByteArray) (hs : List Hdr) (bs : List UInt8) (ts : List ByteArray) : Int :=
  if left - (key.size : Int) < 0 then -1 else
  if szHL (left - (key.size : Int)) hs < 0 then -1 else
  if szHL (left - (key.size : Int)) hs - (bs.length : Int) < 0 then -1 else
  if szTL (szHL (left - (key.size : Int)) hs - (bs.length : Int)) ts < 0 then -1 else szTL (szHL (left - (key.size : Int)) hs - (bs.length : Int)) ts
set_option maxHeartbeats 4000000 in
theorem szEntry_any (w : World) (key : ByteArray) (st : Int) (ha : Option Addr) (hc : Nat) (ba : Option Addr) (bc : Nat) (t g l s e : Int) (b1 b2 : Bool) (ta : Option Addr) (tc : Nat) (pins : Int) (hs : List Hdr) (bs : List UInt8) (ts : List ByteArray) (left : Int) (h0 : 0 ≤ left) (h1 : left ≤ 1048576) (hk : key.size ≤ maxLen) (hhl : hs.length ≤ maxLen) (hsm : SmallHdrs hs) (hbl : bs.length ≤ maxLen) (htl : ts.length ≤ maxLen) (hts : ∀ x ∈ ts, x.size ≤ maxLen) (hH : HdsIn w ha hs) (hT : TIn w ta ts) :
    Calls Tryd.prog 8 #[.agg #[.string key, .int .i64 st, .slice ha hs.length hc, .slice ba bs.length bc, .int .i64 t, .int .i64 g, .int .i64 l, .int .i64 s, .int .i64 e, .bool b1, .bool b2, .slice ta ts.length tc, .int .i64 pins], .int .i64 left] w fun r w' => r = .returned (.int .i64 (szE left key hs bs ts)) ∧ Below w.heap.size w w' := by
  have HZH : Hid (∀ W left', Below w.heap.size w W → 0 ≤ left' → left' ≤ 1048576 → Calls Tryd.prog 28 #[.slice ha hs.length hc, .int .i64 left'] W fun r w' => r = .returned (.int .i64 (szHL left' hs)) ∧ Below W.heap.size W w') := fun W left' hb a b => szHeaderS_any W ha hc hs hhl (hH.keep hb) hsm left' a b
  have HZB : Hid (∀ W left', 0 ≤ left' → left' ≤ 1048576 → Calls Tryd.prog 29 #[.slice ba bs.length bc, .int .i64 left'] W fun r w' => r = .returned (.int .i64 (if left' - (bs.length : Int) < 0 then -1 else left' - (bs.length : Int))) ∧ w' = W) := fun W left' a b => szByteS_any ba bs.length bc left' W a b hbl
  have HZT : Hid (∀ W left', Below w.heap.size w W → 0 ≤ left' → left' ≤ 1048576 → Calls Tryd.prog 30 #[.slice ta ts.length tc, .int .i64 left'] W fun r w' => r = .returned (.int .i64 (szTL left' ts)) ∧ Below W.heap.size W w') := fun W left' hb a b => szStringS_any W ta tc ts htl (hT.keep hb) hts left' a b
  have HLE : Hid (¬ szHL (left - (key.size : Int)) hs < 0 → szHL (left - (key.size : Int)) hs ≤ left - (key.size : Int)) := szHL_le
  have HB0 : Hid (Below w.heap.size w (w.alloc (.cells #[.string key, .int .i64 st, .slice ha hs.length hc, .slice ba bs.length bc, .int .i64 t, .int .i64 g, .int .i64 l, .int .i64 s, .int .i64 e, .bool b1, .bool b2, .slice ta ts.length tc, .int .i64 pins] 28))) := (Below.refl _ _).alloc (Nat.le_refl _) _
  have HC0 : Hid (E13 (w.alloc (.cells #[.string key, .int .i64 st, .slice ha hs.length hc, .slice ba bs.length bc, .int .i64 t, .int .i64 g, .int .i64 l, .int .i64 s, .int .i64 e, .bool b1, .bool b2, .slice ta ts.length tc, .int .i64 pins] 28)) w.heap.size (.string key) (.int .i64 st) (.slice ha hs.length hc) (.slice ba bs.length bc) (.int .i64 t) (.int .i64 g) (.int .i64 l) (.int .i64 s) (.int .i64 e) (.bool b1) (.bool b2) (.slice ta ts.length tc) (.int .i64 pins)) := E13.new w _ _ _ _ _ _ _ _ _ _ _ _ _ _
  unfold maxLen at hk
  obtain ⟨Z, hZ⟩ : ∃ Z, szE left key hs bs ts = Z := ⟨_, rfl⟩
  rw [hZ]
  unfold szE at hZ
  have HSZ : Hid (_ = Z) := hZ
  clear hZ
  clear hH hT hsm hts hhl hbl htl
  generalize hz1 : szHL (left - (key.size : Int)) hs = z1 at *
  generalize hs.length = hl at *
  generalize bs.length = bn at *
  generalize ts.length = tn at *
  by_cases c1 : left - (key.size : Int) < 0
  · have HR := HSZ.out
    rw [if_pos c1] at HR
    rw [← HR]
    clear HSZ HR HLE
    go_enter Tryd.func8, Tryd.ntmps8
    go_wp2_with fail
    go_ret
    exact ⟨rfl, HB0.out⟩
  rw [if_neg c1] at HSZ
  by_cases c2 : z1 < 0
  · have HR := HSZ.out
    rw [if_pos c2] at HR
    rw [← HR]
    clear HSZ HR HLE
    go_enter Tryd.func8, Tryd.ntmps8
    go_wp2_with fail
    refine (HZH.out _ _ HB0.out (by omega) (by omega)).mono ?_
    rintro r w1 ⟨rfl, hb1⟩
    rw [hz1]
    have HB1 : Hid (Below w.heap.size w w1) := HB0.out.trans (hb1.mono HB0.out.size)
    clear hb1
    go_wp2_with fail
    go_ret
    exact ⟨rfl, HB1.out⟩
  rw [if_neg c2] at HSZ
  have hle := HLE.out c2
  have HZ1 : Hid (szHL (left - (key.size : Int)) hs = z1) := hz1
  clear HLE hz1
  by_cases c3 : z1 - (bn : Int) < 0
  · have HR := HSZ.out
    rw [if_pos c3] at HR
    rw [← HR]
    clear HSZ HR
    go_enter Tryd.func8, Tryd.ntmps8
    go_wp2_with fail
    refine (HZH.out _ _ HB0.out (by omega) (by omega)).mono ?_
    rintro r w1 ⟨rfl, hb1⟩
    rw [HZ1.out]
    have HB1 : Hid (Below w.heap.size w w1) := HB0.out.trans (hb1.mono HB0.out.size)
    have HC1 := HC0.out.keep hb1
    have q3 := HC1.c3
    clear hb1 HC1
    go_wp2_with fail
    refine (HZB.out _ _ (by omega) (by omega)).mono ?_
    rintro r w2 ⟨rfl, rfl⟩
    rw [if_pos c3]
    go_wp2_with fail
    go_ret
    exact ⟨rfl, HB1.out⟩
  rw [if_neg c3] at HSZ
  obtain ⟨z2, hz2⟩ : ∃ x, Hid (szTL (z1 - (bn : Int)) ts = x) := ⟨_, rfl⟩
  rw [hz2.out] at HSZ
  have HR : Hid ((if z2 < 0 then -1 else z2) = Z) := HSZ.out
  clear HSZ
  rw [← HR.out]
  clear HR
  go_enter Tryd.func8, Tryd.ntmps8
  go_wp2_with fail
  refine (HZH.out _ _ HB0.out (by omega) (by omega)).mono ?_
  rintro r w1 ⟨rfl, hb1⟩
  rw [HZ1.out]
  have HB1 : Hid (Below w.heap.size w w1) := HB0.out.trans (hb1.mono HB0.out.size)
  have HC1 := HC0.out.keep hb1
  have q3 := HC1.c3
  have q11 := HC1.c11
  clear hb1 HC1
  go_wp2_with fail
  refine (HZB.out _ _ (by omega) (by omega)).mono ?_
  rintro r w2 ⟨rfl, rfl⟩
  rw [if_neg (show ¬ z1 - (bn : Int) < 0 from by omega)]
  go_wp2_with fail
  refine (HZT.out _ _ HB1.out (by omega) (by omega)).mono ?_
  rintro r w3 ⟨rfl, hb3⟩
  rw [hz2.out]
  have HB3 : Hid (Below w.heap.size w w3) := HB1.out.trans (hb3.mono HB1.out.size)
  clear hb3
  by_cases c4 : z2 < 0
  · go_wp2_with fail
    go_ret
    exact ⟨rfl, HB3.out⟩
  · go_wp2_with fail
    go_ret
    exact ⟨rfl, HB3.out⟩
set_option maxHeartbeats 1000000 in
theorem eqHeaderS_none (w : World) (a b : Option Addr) (c d : Nat) :
    Calls Tryd.prog 41 #[.slice a 0 c, .slice b 0 d] w fun e w' => e = .returned (.bool true) ∧ Below w.heap.size w w' := by
  go_enter Tryd.func41, Tryd.ntmps41
  go_wp2_with fail
  go_loop [5] (fun i => i = .int .i64 0) (fun _ => 0)
  case atStart => exact rfl
  case round =>
    cases hrel
    go_wp2_with fail
    go_ret
    exact ⟨rfl, Below.refl _ _⟩
theorem eqHeaderS_in (w : World) (a1 a2 : Option Addr) (c1 c2 : Nat) (l : List Hdr) (hl : l.length ≤ 1048576) (h1 : HdsIn w a1 l) (h2 : HdsIn w a2 l) :
    Calls Tryd.prog 41 #[.slice a1 l.length c1, .slice a2 l.length c2] w fun e w' => e = .returned (.bool true) ∧ Below w.heap.size w w' := by
  rcases h1 with rfl | ⟨b, o, rfl, h1⟩
  · exact eqHeaderS_none w _ _ _ _
  · rcases h2 with rfl | ⟨b2, o2, rfl, h2⟩
    · exact eqHeaderS_none w _ _ _ _
    · exact eqHeaderS_same w b o b2 o2 c1 c2 l hl h1 h2
set_option maxHeartbeats 8000000 in
theorem eqEntry_same (w : World) (key : ByteArray) (st : Int) (h1 h2 : Option Addr) (k1 k2 : Nat) (ba1 ba2 : Option Addr) (bc1 bc2 : Nat) (t g l s e : Int) (b1 b2 : Bool) (ta1 ta2 : Option Addr) (tc1 tc2 : Nat) (pins : Int) (hs : List Hdr) (bs : List UInt8) (ts : List ByteArray)
    (hhl : hs.length ≤ 1048576) (hbl : bs.length ≤ 1048576) (htl : ts.length ≤ 1048576) (hH1 : HdsIn w h1 hs) (hH2 : HdsIn w h2 hs) (hB1 : BIn w ba1 bs) (hB2 : BIn w ba2 bs) (hT1 : TIn w ta1 ts) (hT2 : TIn w ta2 ts) :
    Calls Tryd.prog 12 #[.agg #[.string key, .int .i64 st, .slice h1 hs.length k1, .slice ba1 bs.length bc1, .int .i64 t, .int .i64 g, .int .i64 l, .int .i64 s, .int .i64 e, .bool b1, .bool b2, .slice ta1 ts.length tc1, .int .i64 pins], .agg #[.string key, .int .i64 st, .slice h2 hs.length k2, .slice ba2 bs.length bc2, .int .i64 t, .int .i64 g, .int .i64 l, .int .i64 s, .int .i64 e, .bool b1, .bool b2, .slice ta2 ts.length tc2, .int .i64 pins]] w fun r w' => r = .returned (.bool true) ∧ Below w.heap.size w w' := by
  have HEH : Hid (∀ W, Below w.heap.size w W → Calls Tryd.prog 41 #[.slice h1 hs.length k1, .slice h2 hs.length k2] W fun r w' => r = .returned (.bool true) ∧ Below W.heap.size W w') := fun W hb => eqHeaderS_in W h1 h2 k1 k2 hs hhl (hH1.keep hb) (hH2.keep hb)
  have HEB : Hid (∀ W, Below w.heap.size w W → Calls Tryd.prog 42 #[.slice ba1 bs.length bc1, .slice ba2 bs.length bc2] W fun r w' => r = .returned (.bool true) ∧ Below W.heap.size W w') := fun W hb => eqByteS_same W ba1 ba2 bc1 bc2 bs hbl (hB1.keep hb) (hB2.keep hb)
  have HEM : Hid (∀ W, Calls Tryd.prog 43 #[.agg #[.int .i64 t, .int .i64 g, .int .i64 l, .int .i64 s, .int .i64 e, .bool b1, .bool b2], .agg #[.int .i64 t, .int .i64 g, .int .i64 l, .int .i64 s, .int .i64 e, .bool b1, .bool b2]] W fun r w' => r = .returned (.bool true) ∧ Below W.heap.size W w') := eqMeta_same t g l s e b1 b2
  have HET : Hid (∀ W, Below w.heap.size w W → Calls Tryd.prog 44 #[.slice ta1 ts.length tc1, .slice ta2 ts.length tc2] W fun r w' => r = .returned (.bool true) ∧ Below W.heap.size W w') := fun W hb => eqStringS_same W ta1 ta2 tc1 tc2 ts htl (hT1.keep hb) (hT2.keep hb)
  clear hH1 hH2 hB1 hB2 hT1 hT2
  generalize hs.length = hl at *
  generalize bs.length = bn at *
  generalize ts.length = tn at *
  obtain ⟨v, hv⟩ : ∃ X, Hid (X = (w.alloc (.cells #[.string key, .int .i64 st, .slice h1 hl k1, .slice ba1 bn bc1, .int .i64 t, .int .i64 g, .int .i64 l, .int .i64 s, .int .i64 e, .bool b1, .bool b2, .slice ta1 tn tc1, .int .i64 pins] 34)).alloc (.cells #[.string key, .int .i64 st, .slice h2 hl k2, .slice ba2 bn bc2, .int .i64 t, .int .i64 g, .int .i64 l, .int .i64 s, .int .i64 e, .bool b1, .bool b2, .slice ta2 tn tc2, .int .i64 pins] 34)) := ⟨_, rfl⟩
  have F0 : Hid (Below w.heap.size w v ∧ E13 v w.heap.size (.string key) (.int .i64 st) (.slice h1 hl k1) (.slice ba1 bn bc1) (.int .i64 t) (.int .i64 g) (.int .i64 l) (.int .i64 s) (.int .i64 e) (.bool b1) (.bool b2) (.slice ta1 tn tc1) (.int .i64 pins) ∧ E13 v (w.heap.size + 1) (.string key) (.int .i64 st) (.slice h2 hl k2) (.slice ba2 bn bc2) (.int .i64 t) (.int .i64 g) (.int .i64 l) (.int .i64 s) (.int .i64 e) (.bool b1) (.bool b2) (.slice ta2 tn tc2) (.int .i64 pins)) := by
    have a1 : Below w.heap.size w (w.alloc (.cells #[.string key, .int .i64 st, .slice h1 hl k1, .slice ba1 bn bc1, .int .i64 t, .int .i64 g, .int .i64 l, .int .i64 s, .int .i64 e, .bool b1, .bool b2, .slice ta1 tn tc1, .int .i64 pins] 34)) := (Below.refl _ _).alloc (Nat.le_refl _) _
    have a2 : Below (w.alloc (.cells #[.string key, .int .i64 st, .slice h1 hl k1, .slice ba1 bn bc1, .int .i64 t, .int .i64 g, .int .i64 l, .int .i64 s, .int .i64 e, .bool b1, .bool b2, .slice ta1 tn tc1, .int .i64 pins] 34)).heap.size (w.alloc (.cells #[.string key, .int .i64 st, .slice h1 hl k1, .slice ba1 bn bc1, .int .i64 t, .int .i64 g, .int .i64 l, .int .i64 s, .int .i64 e, .bool b1, .bool b2, .slice ta1 tn tc1, .int .i64 pins] 34)) ((w.alloc (.cells #[.string key, .int .i64 st, .slice h1 hl k1, .slice ba1 bn bc1, .int .i64 t, .int .i64 g, .int .i64 l, .int .i64 s, .int .i64 e, .bool b1, .bool b2, .slice ta1 tn tc1, .int .i64 pins] 34)).alloc (.cells #[.string key, .int .i64 st, .slice h2 hl k2, .slice ba2 bn bc2, .int .i64 t, .int .i64 g, .int .i64 l, .int .i64 s, .int .i64 e, .bool b1, .bool b2, .slice ta2 tn tc2, .int .i64 pins] 34)) := (Below.refl _ _).alloc (Nat.le_refl _) _
    have ez : (w.alloc (.cells #[.string key, .int .i64 st, .slice h1 hl k1, .slice ba1 bn bc1, .int .i64 t, .int .i64 g, .int .i64 l, .int .i64 s, .int .i64 e, .bool b1, .bool b2, .slice ta1 tn tc1, .int .i64 pins] 34)).heap.size = w.heap.size + 1 := by simp
    have e2 := E13.new (w.alloc (.cells #[.string key, .int .i64 st, .slice h1 hl k1, .slice ba1 bn bc1, .int .i64 t, .int .i64 g, .int .i64 l, .int .i64 s, .int .i64 e, .bool b1, .bool b2, .slice ta1 tn tc1, .int .i64 pins] 34)) (.string key) (.int .i64 st) (.slice h2 hl k2) (.slice ba2 bn bc2) (.int .i64 t) (.int .i64 g) (.int .i64 l) (.int .i64 s) (.int .i64 e) (.bool b1) (.bool b2) (.slice ta2 tn tc2) (.int .i64 pins) 34
    rw [ez] at e2
    rw [hv.out]
    exact ⟨a1.trans (a2.mono a1.size), (E13.new w (.string key) (.int .i64 st) (.slice h1 hl k1) (.slice ba1 bn bc1) (.int .i64 t) (.int .i64 g) (.int .i64 l) (.int .i64 s) (.int .i64 e) (.bool b1) (.bool b2) (.slice ta1 tn tc1) (.int .i64 pins) 34).keep a2, e2⟩
  have hbe : (key.toList == key.toList) = true := by simp
  have hbe2 : (key.toList != key.toList) = false := by simp
  go_enter Tryd.func12, Tryd.ntmps12
  go_upto_region 1 with fail
  rw [← hv.out]
  clear hv
  have a0 := F0.out.2.1.c0
  have d0 := F0.out.2.2.c0
  have a1 := F0.out.2.1.c1
  have d1 := F0.out.2.2.c1
  have a2 := F0.out.2.1.c2
  have d2 := F0.out.2.2.c2
  have a3 := F0.out.2.1.c3
  have d3 := F0.out.2.2.c3
  have a4 := F0.out.2.1.c4
  have d4 := F0.out.2.2.c4
  have a5 := F0.out.2.1.c5
  have d5 := F0.out.2.2.c5
  have a6 := F0.out.2.1.c6
  have d6 := F0.out.2.2.c6
  have a7 := F0.out.2.1.c7
  have d7 := F0.out.2.2.c7
  have a8 := F0.out.2.1.c8
  have d8 := F0.out.2.2.c8
  have a9 := F0.out.2.1.c9
  have d9 := F0.out.2.2.c9
  have a10 := F0.out.2.1.c10
  have d10 := F0.out.2.2.c10
  have a11 := F0.out.2.1.c11
  have d11 := F0.out.2.2.c11
  have a12 := F0.out.2.1.c12
  have d12 := F0.out.2.2.c12
  go_wp2_with fail
  refine (HEH.out _ F0.out.1).mono ?_
  rintro r w1 ⟨rfl, hb1⟩
  have F1 : Hid (Below w.heap.size w w1 ∧ E13 w1 w.heap.size (.string key) (.int .i64 st) (.slice h1 hl k1) (.slice ba1 bn bc1) (.int .i64 t) (.int .i64 g) (.int .i64 l) (.int .i64 s) (.int .i64 e) (.bool b1) (.bool b2) (.slice ta1 tn tc1) (.int .i64 pins) ∧ E13 w1 (w.heap.size + 1) (.string key) (.int .i64 st) (.slice h2 hl k2) (.slice ba2 bn bc2) (.int .i64 t) (.int .i64 g) (.int .i64 l) (.int .i64 s) (.int .i64 e) (.bool b1) (.bool b2) (.slice ta2 tn tc2) (.int .i64 pins)) := ⟨F0.out.1.trans (hb1.mono F0.out.1.size), F0.out.2.1.keep hb1, F0.out.2.2.keep hb1⟩
  clear hb1 F0 a0 a1 a2 a3 a4 a5 a6 a7 a8 a9 a10 a11 a12 d0 d1 d2 d3 d4 d5 d6 d7 d8 d9 d10 d11 d12
  have a0 := F1.out.2.1.c0
  have d0 := F1.out.2.2.c0
  have a1 := F1.out.2.1.c1
  have d1 := F1.out.2.2.c1
  have a2 := F1.out.2.1.c2
  have d2 := F1.out.2.2.c2
  have a3 := F1.out.2.1.c3
  have d3 := F1.out.2.2.c3
  have a4 := F1.out.2.1.c4
  have d4 := F1.out.2.2.c4
  have a5 := F1.out.2.1.c5
  have d5 := F1.out.2.2.c5
  have a6 := F1.out.2.1.c6
  have d6 := F1.out.2.2.c6
  have a7 := F1.out.2.1.c7
  have d7 := F1.out.2.2.c7
  have a8 := F1.out.2.1.c8
  have d8 := F1.out.2.2.c8
  have a9 := F1.out.2.1.c9
  have d9 := F1.out.2.2.c9
  have a10 := F1.out.2.1.c10
  have d10 := F1.out.2.2.c10
  have a11 := F1.out.2.1.c11
  have d11 := F1.out.2.2.c11
  have a12 := F1.out.2.1.c12
  have d12 := F1.out.2.2.c12
  go_wp2_with fail
  refine (HEB.out _ F1.out.1).mono ?_
  rintro r w2 ⟨rfl, hb2⟩
  have F2 : Hid (Below w.heap.size w w2 ∧ E13 w2 w.heap.size (.string key) (.int .i64 st) (.slice h1 hl k1) (.slice ba1 bn bc1) (.int .i64 t) (.int .i64 g) (.int .i64 l) (.int .i64 s) (.int .i64 e) (.bool b1) (.bool b2) (.slice ta1 tn tc1) (.int .i64 pins) ∧ E13 w2 (w.heap.size + 1) (.string key) (.int .i64 st) (.slice h2 hl k2) (.slice ba2 bn bc2) (.int .i64 t) (.int .i64 g) (.int .i64 l) (.int .i64 s) (.int .i64 e) (.bool b1) (.bool b2) (.slice ta2 tn tc2) (.int .i64 pins)) := ⟨F1.out.1.trans (hb2.mono F1.out.1.size), F1.out.2.1.keep hb2, F1.out.2.2.keep hb2⟩
  clear hb2 F1 a0 a1 a2 a3 a4 a5 a6 a7 a8 a9 a10 a11 a12 d0 d1 d2 d3 d4 d5 d6 d7 d8 d9 d10 d11 d12
  have a0 := F2.out.2.1.c0
  have d0 := F2.out.2.2.c0
  have a1 := F2.out.2.1.c1
  have d1 := F2.out.2.2.c1
  have a2 := F2.out.2.1.c2
  have d2 := F2.out.2.2.c2
  have a3 := F2.out.2.1.c3
  have d3 := F2.out.2.2.c3
  have a4 := F2.out.2.1.c4
  have d4 := F2.out.2.2.c4
  have a5 := F2.out.2.1.c5
  have d5 := F2.out.2.2.c5
  have a6 := F2.out.2.1.c6
  have d6 := F2.out.2.2.c6
  have a7 := F2.out.2.1.c7
  have d7 := F2.out.2.2.c7
  have a8 := F2.out.2.1.c8
  have d8 := F2.out.2.2.c8
  have a9 := F2.out.2.1.c9
  have d9 := F2.out.2.2.c9
  have a10 := F2.out.2.1.c10
  have d10 := F2.out.2.2.c10
  have a11 := F2.out.2.1.c11
  have d11 := F2.out.2.2.c11
  have a12 := F2.out.2.1.c12
  have d12 := F2.out.2.2.c12
  go_wp2_with fail
  refine (HEM.out _).mono ?_
  rintro r w3 ⟨rfl, hb3⟩
  have F3 : Hid (Below w.heap.size w w3 ∧ E13 w3 w.heap.size (.string key) (.int .i64 st) (.slice h1 hl k1) (.slice ba1 bn bc1) (.int .i64 t) (.int .i64 g) (.int .i64 l) (.int .i64 s) (.int .i64 e) (.bool b1) (.bool b2) (.slice ta1 tn tc1) (.int .i64 pins) ∧ E13 w3 (w.heap.size + 1) (.string key) (.int .i64 st) (.slice h2 hl k2) (.slice ba2 bn bc2) (.int .i64 t) (.int .i64 g) (.int .i64 l) (.int .i64 s) (.int .i64 e) (.bool b1) (.bool b2) (.slice ta2 tn tc2) (.int .i64 pins)) := ⟨F2.out.1.trans (hb3.mono F2.out.1.size), F2.out.2.1.keep hb3, F2.out.2.2.keep hb3⟩
  clear hb3 F2 a0 a1 a2 a3 a4 a5 a6 a7 a8 a9 a10 a11 a12 d0 d1 d2 d3 d4 d5 d6 d7 d8 d9 d10 d11 d12
  have a0 := F3.out.2.1.c0
  have d0 := F3.out.2.2.c0
  have a1 := F3.out.2.1.c1
  have d1 := F3.out.2.2.c1
  have a2 := F3.out.2.1.c2
  have d2 := F3.out.2.2.c2
  have a3 := F3.out.2.1.c3
  have d3 := F3.out.2.2.c3
  have a4 := F3.out.2.1.c4
  have d4 := F3.out.2.2.c4
  have a5 := F3.out.2.1.c5
  have d5 := F3.out.2.2.c5
  have a6 := F3.out.2.1.c6
  have d6 := F3.out.2.2.c6
  have a7 := F3.out.2.1.c7
  have d7 := F3.out.2.2.c7
  have a8 := F3.out.2.1.c8
  have d8 := F3.out.2.2.c8
  have a9 := F3.out.2.1.c9
  have d9 := F3.out.2.2.c9
  have a10 := F3.out.2.1.c10
  have d10 := F3.out.2.2.c10
  have a11 := F3.out.2.1.c11
  have d11 := F3.out.2.2.c11
  have a12 := F3.out.2.1.c12
  have d12 := F3.out.2.2.c12
  go_wp2_with fail
  refine (HET.out _ F3.out.1).mono ?_
  rintro r w4 ⟨rfl, hb4⟩
  have F4 : Hid (Below w.heap.size w w4 ∧ E13 w4 w.heap.size (.string key) (.int .i64 st) (.slice h1 hl k1) (.slice ba1 bn bc1) (.int .i64 t) (.int .i64 g) (.int .i64 l) (.int .i64 s) (.int .i64 e) (.bool b1) (.bool b2) (.slice ta1 tn tc1) (.int .i64 pins) ∧ E13 w4 (w.heap.size + 1) (.string key) (.int .i64 st) (.slice h2 hl k2) (.slice ba2 bn bc2) (.int .i64 t) (.int .i64 g) (.int .i64 l) (.int .i64 s) (.int .i64 e) (.bool b1) (.bool b2) (.slice ta2 tn tc2) (.int .i64 pins)) := ⟨F3.out.1.trans (hb4.mono F3.out.1.size), F3.out.2.1.keep hb4, F3.out.2.2.keep hb4⟩
  clear hb4 F3 a0 a1 a2 a3 a4 a5 a6 a7 a8 a9 a10 a11 a12 d0 d1 d2 d3 d4 d5 d6 d7 d8 d9 d10 d11 d12
  have a12 := F4.out.2.1.c12
  have d12 := F4.out.2.2.c12
  go_wp2_with fail
  go_ret
  exact ⟨rfl, F4.out.1⟩
theorem szTL_le {l : List ByteArray} {left : Int} (h : ¬ szTL left l < 0) : szTL left l ≤ left := by
  unfold szTL at h ⊢
  by_cases c : left - (l.length : Int) < 0
  · rw [if_pos c] at h; omega
  · rw [if_neg c] at h ⊢
    rcases szTs_le l (left - (l.length : Int)) with x | x <;> omega
theorem szE_room {left : Int} {key : ByteArray} {hs : List Hdr} {bs : List UInt8} {ts : List ByteArray} (hl : left ≤ 1048576) (h : ¬ szE left key hs bs ts < 0) : key.size ≤ 1048576 ∧ hs.length ≤ 1048576 ∧ bs.length ≤ 1048576 ∧ ts.length ≤ 1048576 ∧ szE left key hs bs ts ≤ left := by
  unfold szE at h ⊢
  split at h
  · exact absurd (by decide) h
  split at h
  · exact absurd (by decide) h
  split at h
  · exact absurd (by decide) h
  split at h
  · exact absurd (by decide) h
  rename_i c1 c2 c3 c4
  rw [if_neg c1, if_neg c2, if_neg c3, if_neg c4]
  have r1 := szHL_room (l := hs) (left := left - (key.size : Int)) (by omega) c2
  have r2 := szHL_le c2
  have r3 := szTL_room (l := ts) (left := szHL (left - (key.size : Int)) hs - (bs.length : Int)) (by omega) c4
  have r4 := szTL_le c4
  exact ⟨by omega, by omega, by omega, r3.1, by omega⟩
end Go.Proofs.YtelbddgdaibolaaDoor
