/-
  Texts of one claim, one behind the other.
-/
import Derived.BigQuiet
import Derived.Deep.AppendLies
import Derived.Deep.CutRange
import Derived.Deep.RegionWith
import Derived.Laws.OwnMore
import Derived.Lib.Join
import Derived.Lib.QuietBelow
import Derived.Lib.SlTrimSet
import Derived.Shelf.LaysM
import Derived.Shelf.Small.Wraps
import Derived.Shelf.Strconv.Clone
import Derived.Shelf.Strconv.Itoa4
import Derived.Shelf.Strings.Cut
import Derived.Shelf.Strings.FieldsFuncAny
import Derived.Shelf.Strings.OnBuilder
import Derived.Shelf.Strings.Prefix
import Derived.Shelf.Strings.Search2
import Derived.Shelf.Strings.SlTrimAscii
import Derived.Shelf.Strings.Split
import Derived.Test.YtolkgnnjocmkdaaGreatDoorProg
import Derived.Test.YtolkgnnjocmkdaaGreatDoorMgA
/-
  Entries, handed over by the laws: how much room they take, copies, comparisons.
-/
namespace Go.Proofs.YtolkgnnjocmkdaaGreatDoor
open Go.ChangeShapes Go.WideShapes Go.ChangeAt Go.RowKit Go.Sort
/-- How much room is left behind an entry; -1: none. -/
def szE (left : Int) (key : ByteArray) (hs : List Hdr) (bs : List UInt8) (ts : List ByteArray) : Int :=
  if left - (key.size : Int) < 0 then -1 else
  if szHL (left - (key.size : Int)) hs < 0 then -1 else
  if szHL (left - (key.size : Int)) hs - (bs.length : Int) < 0 then -1 else
  if szTL (szHL (left - (key.size : Int)) hs - (bs.length : Int)) ts < 0 then -1 else szTL (szHL (left - (key.size : Int)) hs - (bs.length : Int)) ts
set_option maxHeartbeats 4000000 in
theorem szEntry_any (w : World) (key : ByteArray) (st : Int) (ha : Option Addr) (hc : Nat) (ba : Option Addr) (bc : Nat) (t g l s e : Int) (b1 b2 : Bool) (ta : Option Addr) (tc : Nat) (pins : Int) (hs : List Hdr) (bs : List UInt8) (ts : List ByteArray) (left : Int) (h0 : 0 ≤ left) (h1 : left ≤ 1048576) (hk : key.size ≤ maxLen) (hhl : hs.length ≤ maxLen) (hsm : SmallHdrs hs) (hbl : bs.length ≤ maxLen) (htl : ts.length ≤ maxLen) (hts : ∀ x ∈ ts, x.size ≤ maxLen) (hH : HdsIn w ha hs) (hT : TIn w ta ts) :
    Calls Tryz.prog 9 #[.agg #[.string key, .int .i64 st, .slice ha hs.length hc, .slice ba bs.length bc, .int .i64 t, .int .i64 g, .int .i64 l, .int .i64 s, .int .i64 e, .bool b1, .bool b2, .slice ta ts.length tc, .int .i64 pins], .int .i64 left] w fun r w' => r = .returned (.int .i64 (szE left key hs bs ts)) ∧ Below w.heap.size w w' := by
  have HZH : Hid (∀ W left', Below w.heap.size w W → 0 ≤ left' → left' ≤ 1048576 → Calls Tryz.prog 53 #[.slice ha hs.length hc, .int .i64 left'] W fun r w' => r = .returned (.int .i64 (szHL left' hs)) ∧ Below W.heap.size W w') := fun W left' hb a b => szHeaderS_any W ha hc hs hhl (hH.keep hb) hsm left' a b
  have HZB : Hid (∀ W left', 0 ≤ left' → left' ≤ 1048576 → Calls Tryz.prog 54 #[.slice ba bs.length bc, .int .i64 left'] W fun r w' => r = .returned (.int .i64 (if left' - (bs.length : Int) < 0 then -1 else left' - (bs.length : Int))) ∧ w' = W) := fun W left' a b => szByteS_any ba bs.length bc left' W a b hbl
  have HZT : Hid (∀ W left', Below w.heap.size w W → 0 ≤ left' → left' ≤ 1048576 → Calls Tryz.prog 55 #[.slice ta ts.length tc, .int .i64 left'] W fun r w' => r = .returned (.int .i64 (szTL left' ts)) ∧ Below W.heap.size W w') := fun W left' hb a b => szStringS_any W ta tc ts htl (hT.keep hb) hts left' a b
  have HLE : Hid (¬ szHL (left - (key.size : Int)) hs < 0 → szHL (left - (key.size : Int)) hs ≤ left - (key.size : Int)) := szHL_le
  have HB0 : Hid (Below w.heap.size w (w.alloc (.cells #[.string key, .int .i64 st, .slice ha hs.length hc, .slice ba bs.length bc, .int .i64 t, .int .i64 g, .int .i64 l, .int .i64 s, .int .i64 e, .bool b1, .bool b2, .slice ta ts.length tc, .int .i64 pins] 30))) := (Below.refl _ _).alloc (Nat.le_refl _) _
  have HC0 : Hid (E13 (w.alloc (.cells #[.string key, .int .i64 st, .slice ha hs.length hc, .slice ba bs.length bc, .int .i64 t, .int .i64 g, .int .i64 l, .int .i64 s, .int .i64 e, .bool b1, .bool b2, .slice ta ts.length tc, .int .i64 pins] 30)) w.heap.size (.string key) (.int .i64 st) (.slice ha hs.length hc) (.slice ba bs.length bc) (.int .i64 t) (.int .i64 g) (.int .i64 l) (.int .i64 s) (.int .i64 e) (.bool b1) (.bool b2) (.slice ta ts.length tc) (.int .i64 pins)) := E13.new w _ _ _ _ _ _ _ _ _ _ _ _ _ _
  unfold maxLen at hk
  obtain ⟨Z, hZ⟩ : ∃ Z, szE left key hs bs ts = Z := ⟨_, rfl⟩
  rw [hZ]
  unfold szE at hZ
  have HSZ : Hid (_ = Z) := hZ
  clear hZ
  clear hH hT hsm hts hhl hbl htl
  generalize hz1 : szHL (left - (key.size : Int)) hs = z1 at *
  generalize hs.length = hl at *
  generalize bs.length = bn at *
  generalize ts.length = tn at *
  by_cases c1 : left - (key.size : Int) < 0
  · have HR := HSZ.out
    rw [if_pos c1] at HR
    rw [← HR]
    clear HSZ HR HLE
    go_enter Tryz.func9, Tryz.ntmps9
    go_wp2_with fail
    go_ret
    exact ⟨rfl, HB0.out⟩
  rw [if_neg c1] at HSZ
  by_cases c2 : z1 < 0
  · have HR := HSZ.out
    rw [if_pos c2] at HR
    rw [← HR]
    clear HSZ HR HLE
    go_enter Tryz.func9, Tryz.ntmps9
    go_wp2_with fail
    refine (HZH.out _ _ HB0.out (by omega) (by omega)).mono ?_
    rintro r w1 ⟨rfl, hb1⟩
    rw [hz1]
    have HB1 : Hid (Below w.heap.size w w1) := HB0.out.trans (hb1.mono HB0.out.size)
    clear hb1
    go_wp2_with fail
    go_ret
    exact ⟨rfl, HB1.out⟩
  rw [if_neg c2] at HSZ
  have hle := HLE.out c2
  have HZ1 : Hid (szHL (left - (key.size : Int)) hs = z1) := hz1
  clear HLE hz1
  by_cases c3 : z1 - (bn : Int) < 0
  · have HR := HSZ.out
    rw [if_pos c3] at HR
    rw [← HR]
    clear HSZ HR
    go_enter Tryz.func9, Tryz.ntmps9
    go_wp2_with fail
    refine (HZH.out _ _ HB0.out (by omega) (by omega)).mono ?_
    rintro r w1 ⟨rfl, hb1⟩
    rw [HZ1.out]
    have HB1 : Hid (Below w.heap.size w w1) := HB0.out.trans (hb1.mono HB0.out.size)
    have HC1 := HC0.out.keep hb1
    have q3 := HC1.c3
    clear hb1 HC1
    go_wp2_with fail
    refine (HZB.out _ _ (by omega) (by omega)).mono ?_
    rintro r w2 ⟨rfl, rfl⟩
    rw [if_pos c3]
    go_wp2_with fail
    go_ret
    exact ⟨rfl, HB1.out⟩
  rw [if_neg c3] at HSZ
  obtain ⟨z2, hz2⟩ : ∃ x, Hid (szTL (z1 - (bn : Int)) ts = x) := ⟨_, rfl⟩
  rw [hz2.out] at HSZ
  have HR : Hid ((if z2 < 0 then -1 else z2) = Z) := HSZ.out
  clear HSZ
  rw [← HR.out]
  clear HR
  go_enter Tryz.func9, Tryz.ntmps9
  go_wp2_with fail
  refine (HZH.out _ _ HB0.out (by omega) (by omega)).mono ?_
  rintro r w1 ⟨rfl, hb1⟩
  rw [HZ1.out]
  have HB1 : Hid (Below w.heap.size w w1) := HB0.out.trans (hb1.mono HB0.out.size)
  have HC1 := HC0.out.keep hb1
  have q3 := HC1.c3
  have q11 := HC1.c11
  clear hb1 HC1
  go_wp2_with fail
  refine (HZB.out _ _ (by omega) (by omega)).mono ?_
  rintro r w2 ⟨rfl, rfl⟩
  rw [if_neg (show ¬ z1 - (bn : Int) < 0 from by omega)]
  go_wp2_with fail
  refine (HZT.out _ _ HB1.out (by omega) (by omega)).mono ?_
  rintro r w3 ⟨rfl, hb3⟩
  rw [hz2.out]
  have HB3 : Hid (Below w.heap.size w w3) := HB1.out.trans (hb3.mono HB1.out.size)
  clear hb3
  by_cases c4 : z2 < 0
  · go_wp2_with fail
    go_ret
    exact ⟨rfl, HB3.out⟩
  · go_wp2_with fail
    go_ret
    exact ⟨rfl, HB3.out⟩
set_option maxHeartbeats 1000000 in
theorem eqHeaderS_none (w : World) (a b : Option Addr) (c d : Nat) :
    Calls Tryz.prog 66 #[.slice a 0 c, .slice b 0 d] w fun e w' => e = .returned (.bool true) ∧ Below w.heap.size w w' := by
  go_enter Tryz.func66, Tryz.ntmps66
  go_wp2_with fail
  go_loop [5] (fun i => i = .int .i64 0) (fun _ => 0)
  case atStart => exact rfl
  case round =>
    cases hrel
    go_wp2_with fail
    go_ret
    exact ⟨rfl, Below.refl _ _⟩
theorem eqHeaderS_in (w : World) (a1 a2 : Option Addr) (c1 c2 : Nat) (l : List Hdr) (hl : l.length ≤ 1048576) (h1 : HdsIn w a1 l) (h2 : HdsIn w a2 l) :
    Calls Tryz.prog 66 #[.slice a1 l.length c1, .slice a2 l.length c2] w fun e w' => e = .returned (.bool true) ∧ Below w.heap.size w w' := by
  rcases h1 with rfl | ⟨b, o, rfl, h1⟩
  · exact eqHeaderS_none w _ _ _ _
  · rcases h2 with rfl | ⟨b2, o2, rfl, h2⟩
    · exact eqHeaderS_none w _ _ _ _
    · exact eqHeaderS_same w b o b2 o2 c1 c2 l hl h1 h2
set_option maxHeartbeats 8000000 in
theorem eqEntry_same (w : World) (key : ByteArray) (st : Int) (h1 h2 : Option Addr) (k1 k2 : Nat) (ba1 ba2 : Option Addr) (bc1 bc2 : Nat) (t g l s e : Int) (b1 b2 : Bool) (ta1 ta2 : Option Addr) (tc1 tc2 : Nat) (pins : Int) (hs : List Hdr) (bs : List UInt8) (ts : List ByteArray)
    (hhl : hs.length ≤ 1048576) (hbl : bs.length ≤ 1048576) (htl : ts.length ≤ 1048576) (hH1 : HdsIn w h1 hs) (hH2 : HdsIn w h2 hs) (hB1 : BIn w ba1 bs) (hB2 : BIn w ba2 bs) (hT1 : TIn w ta1 ts) (hT2 : TIn w ta2 ts) :
    Calls Tryz.prog 16 #[.agg #[.string key, .int .i64 st, .slice h1 hs.length k1, .slice ba1 bs.length bc1, .int .i64 t, .int .i64 g, .int .i64 l, .int .i64 s, .int .i64 e, .bool b1, .bool b2, .slice ta1 ts.length tc1, .int .i64 pins], .agg #[.string key, .int .i64 st, .slice h2 hs.length k2, .slice ba2 bs.length bc2, .int .i64 t, .int .i64 g, .int .i64 l, .int .i64 s, .int .i64 e, .bool b1, .bool b2, .slice ta2 ts.length tc2, .int .i64 pins]] w fun r w' => r = .returned (.bool true) ∧ Below w.heap.size w w' := by
  have HEH : Hid (∀ W, Below w.heap.size w W → Calls Tryz.prog 66 #[.slice h1 hs.length k1, .slice h2 hs.length k2] W fun r w' => r = .returned (.bool true) ∧ Below W.heap.size W w') := fun W hb => eqHeaderS_in W h1 h2 k1 k2 hs hhl (hH1.keep hb) (hH2.keep hb)
  have HEB : Hid (∀ W, Below w.heap.size w W → Calls Tryz.prog 67 #[.slice ba1 bs.length bc1, .slice ba2 bs.length bc2] W fun r w' => r = .returned (.bool true) ∧ Below W.heap.size W w') := fun W hb => eqByteS_same W ba1 ba2 bc1 bc2 bs hbl (hB1.keep hb) (hB2.keep hb)
  have HEM : Hid (∀ W, Calls Tryz.prog 68 #[.agg #[.int .i64 t, .int .i64 g, .int .i64 l, .int .i64 s, .int .i64 e, .bool b1, .bool b2], .agg #[.int .i64 t, .int .i64 g, .int .i64 l, .int .i64 s, .int .i64 e, .bool b1, .bool b2]] W fun r w' => r = .returned (.bool true) ∧ Below W.heap.size W w') := eqMeta_same t g l s e b1 b2
  have HET : Hid (∀ W, Below w.heap.size w W → Calls Tryz.prog 69 #[.slice ta1 ts.length tc1, .slice ta2 ts.length tc2] W fun r w' => r = .returned (.bool true) ∧ Below W.heap.size W w') := fun W hb => eqStringS_same W ta1 ta2 tc1 tc2 ts htl (hT1.keep hb) (hT2.keep hb)
  clear hH1 hH2 hB1 hB2 hT1 hT2
  generalize hs.length = hl at *
  generalize bs.length = bn at *
  generalize ts.length = tn at *
  obtain ⟨v, hv⟩ : ∃ X, Hid (X = (w.alloc (.cells #[.string key, .int .i64 st, .slice h1 hl k1, .slice ba1 bn bc1, .int .i64 t, .int .i64 g, .int .i64 l, .int .i64 s, .int .i64 e, .bool b1, .bool b2, .slice ta1 tn tc1, .int .i64 pins] 42)).alloc (.cells #[.string key, .int .i64 st, .slice h2 hl k2, .slice ba2 bn bc2, .int .i64 t, .int .i64 g, .int .i64 l, .int .i64 s, .int .i64 e, .bool b1, .bool b2, .slice ta2 tn tc2, .int .i64 pins] 42)) := ⟨_, rfl⟩
  have F0 : Hid (Below w.heap.size w v ∧ E13 v w.heap.size (.string key) (.int .i64 st) (.slice h1 hl k1) (.slice ba1 bn bc1) (.int .i64 t) (.int .i64 g) (.int .i64 l) (.int .i64 s) (.int .i64 e) (.bool b1) (.bool b2) (.slice ta1 tn tc1) (.int .i64 pins) ∧ E13 v (w.heap.size + 1) (.string key) (.int .i64 st) (.slice h2 hl k2) (.slice ba2 bn bc2) (.int .i64 t) (.int .i64 g) (.int .i64 l) (.int .i64 s) (.int .i64 e) (.bool b1) (.bool b2) (.slice ta2 tn tc2) (.int .i64 pins)) := by
    have a1 : Below w.heap.size w (w.alloc (.cells #[.string key, .int .i64 st, .slice h1 hl k1, .slice ba1 bn bc1, .int .i64 t, .int .i64 g, .int .i64 l, .int .i64 s, .int .i64 e, .bool b1, .bool b2, .slice ta1 tn tc1, .int .i64 pins] 42)) := (Below.refl _ _).alloc (Nat.le_refl _) _
    have a2 : Below (w.alloc (.cells #[.string key, .int .i64 st, .slice h1 hl k1, .slice ba1 bn bc1, .int .i64 t, .int .i64 g, .int .i64 l, .int .i64 s, .int .i64 e, .bool b1, .bool b2, .slice ta1 tn tc1, .int .i64 pins] 42)).heap.size (w.alloc (.cells #[.string key, .int .i64 st, .slice h1 hl k1, .slice ba1 bn bc1, .int .i64 t, .int .i64 g, .int .i64 l, .int .i64 s, .int .i64 e, .bool b1, .bool b2, .slice ta1 tn tc1, .int .i64 pins] 42)) ((w.alloc (.cells #[.string key, .int .i64 st, .slice h1 hl k1, .slice ba1 bn bc1, .int .i64 t, .int .i64 g, .int .i64 l, .int .i64 s, .int .i64 e, .bool b1, .bool b2, .slice ta1 tn tc1, .int .i64 pins] 42)).alloc (.cells #[.string key, .int .i64 st, .slice h2 hl k2, .slice ba2 bn bc2, .int .i64 t, .int .i64 g, .int .i64 l, .int .i64 s, .int .i64 e, .bool b1, .bool b2, .slice ta2 tn tc2, .int .i64 pins] 42)) := (Below.refl _ _).alloc (Nat.le_refl _) _
    have ez : (w.alloc (.cells #[.string key, .int .i64 st, .slice h1 hl k1, .slice ba1 bn bc1, .int .i64 t, .int .i64 g, .int .i64 l, .int .i64 s, .int .i64 e, .bool b1, .bool b2, .slice ta1 tn tc1, .int .i64 pins] 42)).heap.size = w.heap.size + 1 := by simp
    have e2 := E13.new (w.alloc (.cells #[.string key, .int .i64 st, .slice h1 hl k1, .slice ba1 bn bc1, .int .i64 t, .int .i64 g, .int .i64 l, .int .i64 s, .int .i64 e, .bool b1, .bool b2, .slice ta1 tn tc1, .int .i64 pins] 42)) (.string key) (.int .i64 st) (.slice h2 hl k2) (.slice ba2 bn bc2) (.int .i64 t) (.int .i64 g) (.int .i64 l) (.int .i64 s) (.int .i64 e) (.bool b1) (.bool b2) (.slice ta2 tn tc2) (.int .i64 pins) 42
    rw [ez] at e2
    rw [hv.out]
    exact ⟨a1.trans (a2.mono a1.size), (E13.new w (.string key) (.int .i64 st) (.slice h1 hl k1) (.slice ba1 bn bc1) (.int .i64 t) (.int .i64 g) (.int .i64 l) (.int .i64 s) (.int .i64 e) (.bool b1) (.bool b2) (.slice ta1 tn tc1) (.int .i64 pins) 42).keep a2, e2⟩
  have hbe : (key.toList == key.toList) = true := by simp
  have hbe2 : (key.toList != key.toList) = false := by simp
  go_enter Tryz.func16, Tryz.ntmps16
  go_upto_region 1 with fail
  rw [← hv.out]
  clear hv
  have a0 := F0.out.2.1.c0
  have d0 := F0.out.2.2.c0
  have a1 := F0.out.2.1.c1
  have d1 := F0.out.2.2.c1
  have a2 := F0.out.2.1.c2
  have d2 := F0.out.2.2.c2
  have a3 := F0.out.2.1.c3
  have d3 := F0.out.2.2.c3
  have a4 := F0.out.2.1.c4
  have d4 := F0.out.2.2.c4
  have a5 := F0.out.2.1.c5
  have d5 := F0.out.2.2.c5
  have a6 := F0.out.2.1.c6
  have d6 := F0.out.2.2.c6
  have a7 := F0.out.2.1.c7
  have d7 := F0.out.2.2.c7
  have a8 := F0.out.2.1.c8
  have d8 := F0.out.2.2.c8
  have a9 := F0.out.2.1.c9
  have d9 := F0.out.2.2.c9
  have a10 := F0.out.2.1.c10
  have d10 := F0.out.2.2.c10
  have a11 := F0.out.2.1.c11
  have d11 := F0.out.2.2.c11
  have a12 := F0.out.2.1.c12
  have d12 := F0.out.2.2.c12
  go_wp2_with fail
  refine (HEH.out _ F0.out.1).mono ?_
  rintro r w1 ⟨rfl, hb1⟩
  have F1 : Hid (Below w.heap.size w w1 ∧ E13 w1 w.heap.size (.string key) (.int .i64 st) (.slice h1 hl k1) (.slice ba1 bn bc1) (.int .i64 t) (.int .i64 g) (.int .i64 l) (.int .i64 s) (.int .i64 e) (.bool b1) (.bool b2) (.slice ta1 tn tc1) (.int .i64 pins) ∧ E13 w1 (w.heap.size + 1) (.string key) (.int .i64 st) (.slice h2 hl k2) (.slice ba2 bn bc2) (.int .i64 t) (.int .i64 g) (.int .i64 l) (.int .i64 s) (.int .i64 e) (.bool b1) (.bool b2) (.slice ta2 tn tc2) (.int .i64 pins)) := ⟨F0.out.1.trans (hb1.mono F0.out.1.size), F0.out.2.1.keep hb1, F0.out.2.2.keep hb1⟩
  clear hb1 F0 a0 a1 a2 a3 a4 a5 a6 a7 a8 a9 a10 a11 a12 d0 d1 d2 d3 d4 d5 d6 d7 d8 d9 d10 d11 d12
  have a0 := F1.out.2.1.c0
  have d0 := F1.out.2.2.c0
  have a1 := F1.out.2.1.c1
  have d1 := F1.out.2.2.c1
  have a2 := F1.out.2.1.c2
  have d2 := F1.out.2.2.c2
  have a3 := F1.out.2.1.c3
  have d3 := F1.out.2.2.c3
  have a4 := F1.out.2.1.c4
  have d4 := F1.out.2.2.c4
  have a5 := F1.out.2.1.c5
  have d5 := F1.out.2.2.c5
  have a6 := F1.out.2.1.c6
  have d6 := F1.out.2.2.c6
  have a7 := F1.out.2.1.c7
  have d7 := F1.out.2.2.c7
  have a8 := F1.out.2.1.c8
  have d8 := F1.out.2.2.c8
  have a9 := F1.out.2.1.c9
  have d9 := F1.out.2.2.c9
  have a10 := F1.out.2.1.c10
  have d10 := F1.out.2.2.c10
  have a11 := F1.out.2.1.c11
  have d11 := F1.out.2.2.c11
  have a12 := F1.out.2.1.c12
  have d12 := F1.out.2.2.c12
  go_wp2_with fail
  refine (HEB.out _ F1.out.1).mono ?_
  rintro r w2 ⟨rfl, hb2⟩
  have F2 : Hid (Below w.heap.size w w2 ∧ E13 w2 w.heap.size (.string key) (.int .i64 st) (.slice h1 hl k1) (.slice ba1 bn bc1) (.int .i64 t) (.int .i64 g) (.int .i64 l) (.int .i64 s) (.int .i64 e) (.bool b1) (.bool b2) (.slice ta1 tn tc1) (.int .i64 pins) ∧ E13 w2 (w.heap.size + 1) (.string key) (.int .i64 st) (.slice h2 hl k2) (.slice ba2 bn bc2) (.int .i64 t) (.int .i64 g) (.int .i64 l) (.int .i64 s) (.int .i64 e) (.bool b1) (.bool b2) (.slice ta2 tn tc2) (.int .i64 pins)) := ⟨F1.out.1.trans (hb2.mono F1.out.1.size), F1.out.2.1.keep hb2, F1.out.2.2.keep hb2⟩
  clear hb2 F1 a0 a1 a2 a3 a4 a5 a6 a7 a8 a9 a10 a11 a12 d0 d1 d2 d3 d4 d5 d6 d7 d8 d9 d10 d11 d12
  have a0 := F2.out.2.1.c0
  have d0 := F2.out.2.2.c0
  have a1 := F2.out.2.1.c1
  have d1 := F2.out.2.2.c1
  have a2 := F2.out.2.1.c2
  have d2 := F2.out.2.2.c2
  have a3 := F2.out.2.1.c3
  have d3 := F2.out.2.2.c3
  have a4 := F2.out.2.1.c4
  have d4 := F2.out.2.2.c4
  have a5 := F2.out.2.1.c5
  have d5 := F2.out.2.2.c5
  have a6 := F2.out.2.1.c6
  have d6 := F2.out.2.2.c6
  have a7 := F2.out.2.1.c7
  have d7 := F2.out.2.2.c7
  have a8 := F2.out.2.1.c8
  have d8 := F2.out.2.2.c8
  have a9 := F2.out.2.1.c9
  have d9 := F2.out.2.2.c9
  have a10 := F2.out.2.1.c10
  have d10 := F2.out.2.2.c10
  have a11 := F2.out.2.1.c11
  have d11 := F2.out.2.2.c11
  have a12 := F2.out.2.1.c12
  have d12 := F2.out.2.2.c12
  go_wp2_with fail
  refine (HEM.out _).mono ?_
  rintro r w3 ⟨rfl, hb3⟩
  have F3 : Hid (Below w.heap.size w w3 ∧ E13 w3 w.heap.size (.string key) (.int .i64 st) (.slice h1 hl k1) (.slice ba1 bn bc1) (.int .i64 t) (.int .i64 g) (.int .i64 l) (.int .i64 s) (.int .i64 e) (.bool b1) (.bool b2) (.slice ta1 tn tc1) (.int .i64 pins) ∧ E13 w3 (w.heap.size + 1) (.string key) (.int .i64 st) (.slice h2 hl k2) (.slice ba2 bn bc2) (.int .i64 t) (.int .i64 g) (.int .i64 l) (.int .i64 s) (.int .i64 e) (.bool b1) (.bool b2) (.slice ta2 tn tc2) (.int .i64 pins)) := ⟨F2.out.1.trans (hb3.mono F2.out.1.size), F2.out.2.1.keep hb3, F2.out.2.2.keep hb3⟩
  clear hb3 F2 a0 a1 a2 a3 a4 a5 a6 a7 a8 a9 a10 a11 a12 d0 d1 d2 d3 d4 d5 d6 d7 d8 d9 d10 d11 d12
  have a0 := F3.out.2.1.c0
  have d0 := F3.out.2.2.c0
  have a1 := F3.out.2.1.c1
  have d1 := F3.out.2.2.c1
  have a2 := F3.out.2.1.c2
  have d2 := F3.out.2.2.c2
  have a3 := F3.out.2.1.c3
  have d3 := F3.out.2.2.c3
  have a4 := F3.out.2.1.c4
  have d4 := F3.out.2.2.c4
  have a5 := F3.out.2.1.c5
  have d5 := F3.out.2.2.c5
  have a6 := F3.out.2.1.c6
  have d6 := F3.out.2.2.c6
  have a7 := F3.out.2.1.c7
  have d7 := F3.out.2.2.c7
  have a8 := F3.out.2.1.c8
  have d8 := F3.out.2.2.c8
  have a9 := F3.out.2.1.c9
  have d9 := F3.out.2.2.c9
  have a10 := F3.out.2.1.c10
  have d10 := F3.out.2.2.c10
  have a11 := F3.out.2.1.c11
  have d11 := F3.out.2.2.c11
  have a12 := F3.out.2.1.c12
  have d12 := F3.out.2.2.c12
  go_wp2_with fail
  refine (HET.out _ F3.out.1).mono ?_
  rintro r w4 ⟨rfl, hb4⟩
  have F4 : Hid (Below w.heap.size w w4 ∧ E13 w4 w.heap.size (.string key) (.int .i64 st) (.slice h1 hl k1) (.slice ba1 bn bc1) (.int .i64 t) (.int .i64 g) (.int .i64 l) (.int .i64 s) (.int .i64 e) (.bool b1) (.bool b2) (.slice ta1 tn tc1) (.int .i64 pins) ∧ E13 w4 (w.heap.size + 1) (.string key) (.int .i64 st) (.slice h2 hl k2) (.slice ba2 bn bc2) (.int .i64 t) (.int .i64 g) (.int .i64 l) (.int .i64 s) (.int .i64 e) (.bool b1) (.bool b2) (.slice ta2 tn tc2) (.int .i64 pins)) := ⟨F3.out.1.trans (hb4.mono F3.out.1.size), F3.out.2.1.keep hb4, F3.out.2.2.keep hb4⟩
  clear hb4 F3 a0 a1 a2 a3 a4 a5 a6 a7 a8 a9 a10 a11 a12 d0 d1 d2 d3 d4 d5 d6 d7 d8 d9 d10 d11 d12
  have a12 := F4.out.2.1.c12
  have d12 := F4.out.2.2.c12
  go_wp2_with fail
  go_ret
  exact ⟨rfl, F4.out.1⟩
theorem szTL_le {l : List ByteArray} {left : Int} (h : ¬ szTL left l < 0) : szTL left l ≤ left := by
  unfold szTL at h ⊢
  by_cases c : left - (l.length : Int) < 0
  · rw [if_pos c] at h; omega
  · rw [if_neg c] at h ⊢
    rcases szTs_le l (left - (l.length : Int)) with x | x <;> omega
theorem szE_room {left : Int} {key : ByteArray} {hs : List Hdr} {bs : List UInt8} {ts : List ByteArray} (hl : left ≤ 1048576) (h : ¬ szE left key hs bs ts < 0) : key.size ≤ 1048576 ∧ hs.length ≤ 1048576 ∧ bs.length ≤ 1048576 ∧ ts.length ≤ 1048576 ∧ szE left key hs bs ts ≤ left := by
  unfold szE at h ⊢
  split at h
  · exact absurd (by decide) h
  split at h
  · exact absurd (by decide) h
  split at h
  · exact absurd (by decide) h
  split at h
  · exact absurd (by decide) h
  rename_i c1 c2 c3 c4
  rw [if_neg c1, if_neg c2, if_neg c3, if_neg c4]
  have r1 := szHL_room (l := hs) (left := left - (key.size : Int)) (by omega) c2
  have r2 := szHL_le c2
  have r3 := szTL_room (l := ts) (left := szHL (left - (key.size : Int)) hs - (bs.length : Int)) (by omega) c4
  have r4 := szTL_le c4
  exact ⟨by omega, by omega, by omega, r3.1, by omega⟩
end Go.Proofs.YtolkgnnjocmkdaaGreatDoor
/-
  The laws' copy of head lines: what it holds may be written.
-/
namespace Go.Proofs.YtolkgnnjocmkdaaGreatDoor
open Go.ChangeShapes Go.WideShapes Go.ChangeAt Go.RowKit Go.Sort
set_option maxHeartbeats 2000000 in
theorem toHeaderS_free (w : World) (a : Option Addr) (cap : Nat) (l : List Hdr) (hl : l.length ≤ 1048576) (hi : l = [] ∨ ∃ b off, a = some ⟨b, off, none⟩ ∧ HeadsAt w b off l) :
    Calls Tryz.prog 59 #[.slice a l.length cap] w fun e w' => e = .returned (.slice (some ⟨w.heap.size, 0, none⟩) l.length l.length) ∧ HeadsAt w' w.heap.size 0 l ∧ w.heap.size < w'.heap.size ∧ (∀ o, w'.frozen? ⟨w.heap.size, o, none⟩ = false) ∧ Below w.heap.size w w' := by
  have HI : Hid (l = [] ∨ ∃ b off, a = some ⟨b, off, none⟩ ∧ HeadsAt w b off l) := hi
  obtain ⟨i0, hi0, hz0, hz1, hz2⟩ := info_parts infoHeader
  clear hi
  generalize hn : l.length = n at *
  have HN : Hid (l.length = n) := hn
  clear hn
  go_enter Tryz.func59, Tryz.ntmps59
  go_wp2_with (at_make; refine wpList_make_full w rfl _ _ 33 rfl w.heap.size 110 i0 _ 2 Tryz.underlying33 hi0 hz0 hz1 _ _ _ _ n rfl rfl rfl rfl (by rw [hz2]; omega) (by unfold maxLen; omega) (Nat.le_refl _) ?_; intro w1 hown hgrow)
  have HR1 : Hid (HRoom w1 w.heap.size (n * 2) ∧ (w.heap.size < w1.heap.size ∧ ∀ o, w1.frozen? ⟨w.heap.size, o, none⟩ = false) ∧ Below w.heap.size w w1) := by
    refine ⟨fun j hj => ⟨?_, hown.frozenAt j⟩, ⟨?lt, fun o => hown.frozenAt o⟩, (Below.refl _ _).grown hgrow (Nat.le_refl _) (fun q hq => by cases hq)⟩
    case lt =>
      obtain ⟨_, h | ⟨g, c, cur, e, _, hh, _⟩⟩ := hown
      · cases h.1
      · simp only [Value.slice.injEq, Option.some.injEq] at e
        have e1 := congrArg Addr.block e.1
        simp only at e1
        rw [e1]
        exact (Array.getElem?_eq_some_iff.1 hh).1
    have h1 := hown.cellAt j hj
    have h2 : j < (madeCells (Value.agg #[.string ⟨#[]⟩, .string ⟨#[]⟩]).cells (n * 2)).toList.length := by have := hown.1; omega
    exact ⟨_, h1.trans (List.getElem?_eq_getElem h2)⟩
  clear hown hgrow
  go_loopw [4] (fun i wr => ∃ k : Nat, k ≤ n ∧ i = .int .i64 k ∧ HeadsAt wr w.heap.size 0 (l.take k) ∧ HRoom wr w.heap.size (n * 2) ∧ (w.heap.size < wr.heap.size ∧ ∀ o, wr.frozen? ⟨w.heap.size, o, none⟩ = false) ∧ Below w.heap.size w wr) (fun i _ => n - (intOf i).toNat)
  case atStart => exact ⟨0, Nat.zero_le _, rfl, fun i r hr => by simp at hr, HR1.out.1, HR1.out.2.1, HR1.out.2.2⟩
  case round =>
    obtain ⟨k, hk, rfl, hat, hroom, hfr, hb⟩ := hrel
    have HFR : Hid (w.heap.size < wr.heap.size ∧ ∀ o, wr.frozen? ⟨w.heap.size, o, none⟩ = false) := hfr
    clear hfr
    clear HR1
    by_cases hlt : k < n
    · obtain ⟨r, hr⟩ : ∃ r, l[k]? = some r := ⟨l[k]'(by have := HN.out; omega), List.getElem?_eq_getElem _⟩
      rcases HI.out with h | ⟨b, off, rfl, hsrc⟩
      · subst h; simp at hr
      have hblt : b < w.heap.size := block_lt_of_cell (hsrc k r hr).1
      have hkeep := (hsrc.keep (w' := w) (Below.refl _ _)) k r hr
      have p1 : wr.cell? ⟨b, off + k * 2, none⟩ = some (.string r.name) := by rw [hb.cell (p := ⟨b, off + k * 2, none⟩) hblt]; exact hkeep.1
      have p3 : wr.cell? ⟨b, off + k * 2 + 1, none⟩ = some (.string r.value) := by rw [hb.cell (p := ⟨b, off + k * 2 + 1, none⟩) hblt]; exact hkeep.2
      have HA : Hid (HeadsAt wr w.heap.size 0 (l.take k)) := hat
      have HM : Hid (HRoom wr w.heap.size (n * 2)) := hroom
      have HR : Hid (l[k]? = some r) := hr
      have g : (k : Int) < n := by omega
      clear hat hroom hr hsrc hkeep HI
      go_wp2_with fail
      refine (toHeader_any r _).mono ?_
      rintro e w2 ⟨rfl, hb2⟩
      have HA2 : Hid (HeadsAt w2 w.heap.size 0 (l.take k)) := HA.out.keep hb2
      have HM2 : Hid (HRoom w2 w.heap.size (n * 2)) := HM.out.keep hb2
      have hbb : Below w.heap.size w w2 := hb.trans (hb2.mono hb.size)
      have HFR2 : Hid (w.heap.size < w2.heap.size ∧ ∀ o, w2.frozen? ⟨w.heap.size, o, none⟩ = false) := ⟨Nat.lt_of_lt_of_le HFR.out.1 hb2.size, fun o => by rw [hb2.frozen (p := ⟨w.heap.size, o, none⟩) HFR.out.1]; exact HFR.out.2 o⟩
      obtain ⟨⟨u0, g0⟩, f0⟩ := HM2.out (k * 2) (by omega)
      obtain ⟨⟨u1, g1⟩, f1⟩ := HM2.out (k * 2 + 1) (by omega)
      have HP : Hid (HeadsAt (put2 w2 w.heap.size k r) w.heap.size 0 (l.take (k + 1)) ∧ HRoom (put2 w2 w.heap.size k r) w.heap.size (n * 2)) := ⟨HA2.out.put HR.out HM2.out hlt, HM2.out.put k r⟩
      clear HA HM HA2 HM2 hb2 hb p1 p3
      obtain ⟨rn, rv⟩ := r
      go_wp2_with fail
      go_roundw
      case rel => exact ⟨k + 1, by omega, by go_num, HP.out.1, HP.out.2, ⟨by simpa using HFR2.out.1, fun o => by rw [World.frozen?_setCell, World.frozen?_setCell]; exact HFR2.out.2 o⟩, (hbb.setCell (Nat.le_refl _) _).setCell (Nat.le_refl _) _⟩
      case measure => simp [intOf]; omega
    · have HF : Hid (HeadsAt wr w.heap.size 0 l) := by
        have e : l.take k = l := List.take_of_length_le (by have := HN.out; omega)
        rw [e] at hat
        exact hat
      clear hat hroom
      go_wp2_with fail
      go_ret
      exact ⟨rfl, HF.out, HFR.out.1, HFR.out.2, hb⟩
end Go.Proofs.YtolkgnnjocmkdaaGreatDoor
/-
  Requests that came in: measured, taken over, compared.
-/
namespace Go.Proofs.YtolkgnnjocmkdaaGreatDoor
open Go.ChangeShapes Go.WideShapes Go.ChangeAt Go.RowKit
/-- Lines of the law's own, that may be written. -/
structure QMine (W : World) (B : Nat) (l : List Hdr) : Prop where
  at0 : HeadsAt W B 0 l
  free : ∀ o, W.frozen? ⟨B, o, none⟩ = false
  lt : B < W.heap.size
theorem QMine.keep {W W' : World} {B : Nat} {l : List Hdr} (h : QMine W B l) (hb : Below W.heap.size W W') : QMine W' B l :=
  ⟨h.at0.keep hb, fun o => by rw [hb.frozen (p := ⟨B, o, none⟩) h.lt]; exact h.free o, Nat.lt_of_lt_of_le h.lt hb.size⟩
def szRq (left : Int) (m h p : ByteArray) (l : List Hdr) : Int :=
  if left - (m.size : Int) < 0 then -1 else if left - (m.size : Int) - (h.size : Int) < 0 then -1 else if left - (m.size : Int) - (h.size : Int) - (p.size : Int) < 0 then -1 else
    if szHL (left - (m.size : Int) - (h.size : Int) - (p.size : Int)) l < 0 then -1 else szHL (left - (m.size : Int) - (h.size : Int) - (p.size : Int)) l
theorem szRq_room {left : Int} {m h p : ByteArray} {l : List Hdr} (hl : left ≤ 1048576) (hz : ¬ szRq left m h p l < 0) : m.size ≤ 1048576 ∧ h.size ≤ 1048576 ∧ p.size ≤ 1048576 ∧ l.length ≤ 1048576 ∧ szRq left m h p l ≤ left := by
  unfold szRq at hz ⊢
  by_cases c1 : left - (m.size : Int) < 0
  · rw [if_pos c1] at hz; omega
  rw [if_neg c1] at hz ⊢
  by_cases c2 : left - (m.size : Int) - (h.size : Int) < 0
  · rw [if_pos c2] at hz; omega
  rw [if_neg c2] at hz ⊢
  by_cases c3 : left - (m.size : Int) - (h.size : Int) - (p.size : Int) < 0
  · rw [if_pos c3] at hz; omega
  rw [if_neg c3] at hz ⊢
  by_cases c4 : szHL (left - (m.size : Int) - (h.size : Int) - (p.size : Int)) l < 0
  · rw [if_pos c4] at hz; omega
  rw [if_neg c4] at hz ⊢
  have a := (szHL_room (by omega) c4).1
  have b := szHL_le c4
  exact ⟨by omega, by omega, by omega, by omega, by omega⟩
set_option maxHeartbeats 2000000 in
theorem szRequest_any (w : World) (m h p : ByteArray) (a : Option Addr) (cap : Nat) (l : List Hdr) (z1 : m.size ≤ maxLen) (z2 : h.size ≤ maxLen) (z3 : p.size ≤ maxLen) (hl : l.length ≤ maxLen) (hz : SmallHdrs l) (hi : HdsIn w a l) (left : Int) (h0 : 0 ≤ left) (h1 : left ≤ 1048576) :
    Calls Tryz.prog 8 #[.agg #[.string m, .string h, .string p, .slice a l.length cap], .int .i64 left] w fun e w' => e = .returned (.int .i64 (szRq left m h p l)) ∧ Below w.heap.size w w' := by
  have HE : Hid (szRq left m h p l = _) := show szRq left m h p l = _ from rfl
  unfold szRq at HE
  obtain ⟨W, hW⟩ : ∃ W, W = w.alloc (.cells #[.string m, .string h, .string p, .slice a l.length cap] 24) := ⟨_, rfl⟩
  have HW : Hid (W = w.alloc (.cells #[.string m, .string h, .string p, .slice a l.length cap] 24)) := hW
  have bW : Below w.heap.size w W := by rw [hW]; exact (Below.refl _ _).alloc (Nat.le_refl _) _
  have HB : Hid (Below w.heap.size w W) := bW
  unfold maxLen at z1 z2 z3
  by_cases c1 : left - (m.size : Int) < 0
  · have HV : Hid (szRq left m h p l = -1) := by show _ = _; unfold szRq; rw [if_pos c1]
    rw [HW.out] at HB
    clear HE hW bW HW hi hz
    generalize l.length = n at *
    go_enter Tryz.func8, Tryz.ntmps8
    go_wp2_with fail
    go_ret
    exact ⟨ret_int HV.out.symm, HB.out⟩
  by_cases c2 : left - (m.size : Int) - (h.size : Int) < 0
  · have HV : Hid (szRq left m h p l = -1) := by show _ = _; unfold szRq; rw [if_neg c1, if_pos c2]
    rw [HW.out] at HB
    clear HE hW bW HW hi hz
    generalize l.length = n at *
    go_enter Tryz.func8, Tryz.ntmps8
    go_wp2_with fail
    go_ret
    exact ⟨ret_int HV.out.symm, HB.out⟩
  by_cases c3 : left - (m.size : Int) - (h.size : Int) - (p.size : Int) < 0
  · have HV : Hid (szRq left m h p l = -1) := by show _ = _; unfold szRq; rw [if_neg c1, if_neg c2, if_pos c3]
    rw [HW.out] at HB
    clear HE hW bW HW hi hz
    generalize l.length = n at *
    go_enter Tryz.func8, Tryz.ntmps8
    go_wp2_with fail
    go_ret
    exact ⟨ret_int HV.out.symm, HB.out⟩
  have C := szHeaderS_any W a cap l hl (hi.keep bW) hz (left - (m.size : Int) - (h.size : Int) - (p.size : Int)) (by omega) (by omega)
  have HV1 : Hid (szHL (left - (m.size : Int) - (h.size : Int) - (p.size : Int)) l < 0 → szRq left m h p l = -1) := fun c => by unfold szRq; rw [if_neg c1, if_neg c2, if_neg c3, if_pos c]
  have HV2 : Hid (¬ szHL (left - (m.size : Int) - (h.size : Int) - (p.size : Int)) l < 0 → szRq left m h p l = szHL (left - (m.size : Int) - (h.size : Int) - (p.size : Int)) l) := fun c => by unfold szRq; rw [if_neg c1, if_neg c2, if_neg c3, if_neg c]
  clear HE hW bW hi hz
  generalize szHL (left - (m.size : Int) - (h.size : Int) - (p.size : Int)) l = z at *
  generalize l.length = n at *
  go_enter Tryz.func8, Tryz.ntmps8
  go_wp2_with fail
  rw [← HW.out]
  refine C.mono ?_
  rintro e w1 ⟨rfl, hb1⟩
  have HB1 : Hid (Below w.heap.size w w1) := HB.out.trans (hb1.mono HB.out.size)
  clear hb1 HB C HW
  by_cases c4 : z < 0
  · have HV := HV1.out c4
    have HV' : Hid (szRq left m h p l = -1) := HV
    clear HV HV1 HV2
    go_wp2_with fail
    go_ret
    exact ⟨ret_int HV'.out.symm, HB1.out⟩
  · have HV' : Hid (szRq left m h p l = z) := HV2.out (by omega)
    clear HV1 HV2
    go_wp2_with fail
    go_ret
    exact ⟨ret_int HV'.out.symm, HB1.out⟩
/-- Four cells of a block, laid out. -/
structure Four (W : World) (B : Nat) (v0 v1 v2 v3 : Value) : Prop where
  c0 : W.cell? ⟨B, 0, none⟩ = some v0
  c1 : W.cell? ⟨B, 1, none⟩ = some v1
  c2 : W.cell? ⟨B, 2, none⟩ = some v2
  c3 : W.cell? ⟨B, 3, none⟩ = some v3
  fr : ∀ o, W.frozen? ⟨B, o, none⟩ = false
  lt : B < W.heap.size
theorem Four.keep {W W' : World} {B : Nat} {v0 v1 v2 v3 : Value} (h : Four W B v0 v1 v2 v3) (hb : Below W.heap.size W W') : Four W' B v0 v1 v2 v3 :=
  ⟨by rw [hb.cell (p := ⟨B, 0, none⟩) h.lt]; exact h.c0, by rw [hb.cell (p := ⟨B, 1, none⟩) h.lt]; exact h.c1, by rw [hb.cell (p := ⟨B, 2, none⟩) h.lt]; exact h.c2, by rw [hb.cell (p := ⟨B, 3, none⟩) h.lt]; exact h.c3,
    fun o => by rw [hb.frozen (p := ⟨B, o, none⟩) h.lt]; exact h.fr o, Nat.lt_of_lt_of_le h.lt hb.size⟩
theorem Four.new (W : World) (v0 v1 v2 v3 : Value) (t : TypeId) : Four (W.alloc (.cells #[v0, v1, v2, v3] t)) W.heap.size v0 v1 v2 v3 :=
  ⟨by rw [World.cell?_alloc_mark]; rfl, by rw [World.cell?_alloc_mark]; rfl, by rw [World.cell?_alloc_mark]; rfl, by rw [World.cell?_alloc_mark]; rfl, fun o => by have e := heap_alloc_new W (.cells #[v0, v1, v2, v3] t); unfold World.frozen?; rw [e]; simp, by simp⟩
set_option maxHeartbeats 2000000 in
theorem toRequest_any (w : World) (m h p : ByteArray) (a : Option Addr) (cap : Nat) (l : List Hdr) (hl : l.length ≤ 1048576) (hi : HdsIn w a l) :
    Calls Tryz.prog 11 #[.agg #[.string m, .string h, .string p, .slice a l.length cap]] w fun e w' => e = .returned (.agg #[.string m, .string h, .string p, .slice (some ⟨w.heap.size + 3, 0, none⟩) l.length l.length]) ∧ QMine w' (w.heap.size + 3) l ∧ Below w.heap.size w w' := by
  obtain ⟨W, hW⟩ : ∃ W, W = ((w.alloc (.cells #[.string m, .string h, .string p, .slice a l.length cap] 24)).alloc (.cells #[.string ⟨#[]⟩, .string ⟨#[]⟩, .string ⟨#[]⟩, .slice none 0 0] 35)).alloc (.cells #[.string m, .string h, .string p, .slice none 0 0] 35) := ⟨_, rfl⟩
  have HW : Hid (W = ((w.alloc (.cells #[.string m, .string h, .string p, .slice a l.length cap] 24)).alloc (.cells #[.string ⟨#[]⟩, .string ⟨#[]⟩, .string ⟨#[]⟩, .slice none 0 0] 35)).alloc (.cells #[.string m, .string h, .string p, .slice none 0 0] 35)) := hW
  have bW : Below w.heap.size w W := by rw [hW]; exact (((Below.refl _ _).alloc (Nat.le_refl _) _).alloc (by simp) _).alloc (by simp; omega) _
  have hsz : W.heap.size = w.heap.size + 3 := by rw [hW]; simp
  have f2 : Four W (w.heap.size + 2) (.string m) (.string h) (.string p) (.slice none 0 0) := by
    rw [hW]
    have := Four.new ((w.alloc (.cells #[.string m, .string h, .string p, .slice a l.length cap] 24)).alloc (.cells #[.string ⟨#[]⟩, .string ⟨#[]⟩, .string ⟨#[]⟩, .slice none 0 0] 35)) (.string m) (.string h) (.string p) (.slice none 0 0) 35
    simpa using this
  have f1 : Four W (w.heap.size + 1) (.string ⟨#[]⟩) (.string ⟨#[]⟩) (.string ⟨#[]⟩) (.slice none 0 0) := by
    rw [hW]
    have := (Four.new (w.alloc (.cells #[.string m, .string h, .string p, .slice a l.length cap] 24)) (.string ⟨#[]⟩) (.string ⟨#[]⟩) (.string ⟨#[]⟩) (.slice none 0 0) 35).keep ((Below.refl _ _).alloc (Nat.le_refl _) (.cells #[.string m, .string h, .string p, .slice none 0 0] 35))
    simpa using this
  have C := toHeaderS_free W a cap l hl (hi.keep bW)
  rw [hsz] at C
  have HB : Hid (Below w.heap.size w W) := bW
  have HZ : Hid (W.heap.size = w.heap.size + 3) := hsz
  have F1 : Hid (Four W (w.heap.size + 1) (.string ⟨#[]⟩) (.string ⟨#[]⟩) (.string ⟨#[]⟩) (.slice none 0 0)) := f1
  have F2 : Hid (Four W (w.heap.size + 2) (.string m) (.string h) (.string p) (.slice none 0 0)) := f2
  clear hW bW hi hsz f1 f2
  generalize l.length = n at *
  go_enter Tryz.func11, Tryz.ntmps11
  go_wp2_with fail
  rw [← HW.out]
  refine C.mono ?_
  rintro e w1 ⟨rfl, hat, hlt, hfr, hb1⟩
  have hb1' : Below W.heap.size W w1 := by rw [HZ.out]; exact hb1
  obtain ⟨a0, a1, a2, a3, af, al⟩ := F2.out.keep hb1'
  obtain ⟨b0, b1, b2, b3, bf, bl⟩ := F1.out.keep hb1'
  have a3f := af 3
  have b0f := bf 0
  have b1f := bf 1
  have b2f := bf 2
  have b3f := bf 3
  have HM : Hid (QMine w1 (w.heap.size + 3) l) := ⟨hat, hfr, hlt⟩
  have HB1 : Hid (Below w.heap.size w w1) := HB.out.trans (hb1'.mono HB.out.size)
  have HQ : Hid (∀ W', (∀ o, W'.cell? ⟨w.heap.size + 3, o, none⟩ = w1.cell? ⟨w.heap.size + 3, o, none⟩) → (∀ o, W'.frozen? ⟨w.heap.size + 3, o, none⟩ = w1.frozen? ⟨w.heap.size + 3, o, none⟩) → W'.heap.size = w1.heap.size → QMine W' (w.heap.size + 3) l) := fun W' h1 h2 h3 =>
    ⟨fun i r hr => by rw [h1, h1]; exact hat i r hr, fun o => by rw [h2]; exact hfr o, by rw [h3]; exact hlt⟩
  clear hat hlt hfr hb1 hb1' C HW HB HZ F1 F2 af bf al bl HM
  go_wp2_with fail
  refine bodyPost_ret (v := .agg #[.string m, .string h, .string p, .slice (some ⟨w.heap.size + 3, 0, none⟩) n n]) ?_ rfl ⟨rfl, HQ.out _ (fun o => ?_) (fun o => ?_) ?_, ?_⟩
  · simp [results, Tryz.results11, go_sem, b0, b1, b2, b3]
  · have ne : ∀ k j : Nat, k < w.heap.size + 3 → (⟨k, j, none⟩ : Addr) ≠ ⟨w.heap.size + 3, o, none⟩ := fun k j hk e => by have := congrArg Addr.block e; simp only at this; omega
    rw [World.cell?_setCell_other _ _ _ _ (ne _ _ (by omega)), World.cell?_setCell_other _ _ _ _ (ne _ _ (by omega)), World.cell?_setCell_other _ _ _ _ (ne _ _ (by omega)), World.cell?_setCell_other _ _ _ _ (ne _ _ (by omega)), World.cell?_setCell_other _ _ _ _ (ne _ _ (by omega))]
  · simp only [World.frozen?_setCell]
  · simp
  · exact ((((HB1.out.setCell (by simp; omega) _).setCell (by simp) _).setCell (by simp) _).setCell (by simp) _).setCell (by simp) _
set_option maxHeartbeats 2000000 in
theorem eqRequest_same (W : World) (m h p : ByteArray) (b1 b2 : Nat) (l : List Hdr) (hl : l.length ≤ 1048576) (h1 : HeadsAt W b1 0 l) (h2 : HeadsAt W b2 0 l) :
    Calls Tryz.prog 15 #[.agg #[.string m, .string h, .string p, .slice (some ⟨b1, 0, none⟩) l.length l.length], .agg #[.string m, .string h, .string p, .slice (some ⟨b2, 0, none⟩) l.length l.length]] W fun e w' => e = .returned (.bool true) ∧ Below W.heap.size W w' := by
  have bW : Below W.heap.size W ((W.alloc (.cells #[.string m, .string h, .string p, .slice (some ⟨b1, 0, none⟩) l.length l.length] 35)).alloc (.cells #[.string m, .string h, .string p, .slice (some ⟨b2, 0, none⟩) l.length l.length] 35)) := ((Below.refl _ _).alloc (Nat.le_refl _) _).alloc (by simp) _
  have C := eqHeaderS_same _ b1 0 b2 0 l.length l.length l hl (h1.keep bW) (h2.keep bW)
  have HB : Hid (Below W.heap.size W _) := bW
  clear bW h1 h2
  generalize l.length = n at *
  go_enter Tryz.func15, Tryz.ntmps15
  go_wp2_with fail
  refine C.mono ?_
  rintro e w1 ⟨rfl, hb1⟩
  have HB1 : Hid (Below W.heap.size W w1) := HB.out.trans (hb1.mono HB.out.size)
  clear hb1 HB C
  go_wp2_with fail
  go_ret
  exact ⟨rfl, HB1.out⟩
end Go.Proofs.YtolkgnnjocmkdaaGreatDoor
/-
  Responses that came in: measured, taken over, compared.
-/
namespace Go.Proofs.YtolkgnnjocmkdaaGreatDoor
open Go.ChangeShapes Go.WideShapes Go.ChangeAt Go.RowKit
structure Three (W : World) (B : Nat) (v0 v1 v2 : Value) : Prop where
  c0 : W.cell? ⟨B, 0, none⟩ = some v0
  c1 : W.cell? ⟨B, 1, none⟩ = some v1
  c2 : W.cell? ⟨B, 2, none⟩ = some v2
  fr : ∀ o, W.frozen? ⟨B, o, none⟩ = false
  lt : B < W.heap.size
theorem Three.keep {W W' : World} {B : Nat} {v0 v1 v2 : Value} (h : Three W B v0 v1 v2) (hb : Below W.heap.size W W') : Three W' B v0 v1 v2 :=
  ⟨by rw [hb.cell (p := ⟨B, 0, none⟩) h.lt]; exact h.c0, by rw [hb.cell (p := ⟨B, 1, none⟩) h.lt]; exact h.c1, by rw [hb.cell (p := ⟨B, 2, none⟩) h.lt]; exact h.c2,
    fun o => by rw [hb.frozen (p := ⟨B, o, none⟩) h.lt]; exact h.fr o, Nat.lt_of_lt_of_le h.lt hb.size⟩
theorem Three.new (W : World) (v0 v1 v2 : Value) (t : TypeId) : Three (W.alloc (.cells #[v0, v1, v2] t)) W.heap.size v0 v1 v2 :=
  ⟨by rw [World.cell?_alloc_mark]; rfl, by rw [World.cell?_alloc_mark]; rfl, by rw [World.cell?_alloc_mark]; rfl, fun o => by have e := heap_alloc_new W (.cells #[v0, v1, v2] t); unfold World.frozen?; rw [e]; simp, by simp⟩
def szP (left : Int) (l : List Hdr) (n : Nat) : Int := if szHL left l < 0 then -1 else if szHL left l - (n : Int) < 0 then -1 else szHL left l - (n : Int)
theorem szP_room {left : Int} {l : List Hdr} {n : Nat} (hl : left ≤ 1048576) (hz : ¬ szP left l n < 0) : l.length ≤ 1048576 ∧ n ≤ 1048576 ∧ szP left l n ≤ left := by
  unfold szP at hz ⊢
  by_cases c1 : szHL left l < 0
  · rw [if_pos c1] at hz; omega
  rw [if_neg c1] at hz ⊢
  by_cases c2 : szHL left l - (n : Int) < 0
  · rw [if_pos c2] at hz; omega
  rw [if_neg c2] at hz ⊢
  have a := (szHL_room hl c1).1
  have b := szHL_le c1
  exact ⟨by omega, by omega, by omega⟩
set_option maxHeartbeats 2000000 in
theorem szResponse_any (w : World) (s : Int) (a : Option Addr) (cap : Nat) (l : List Hdr) (b : Option Addr) (bn bc : Nat) (hl : l.length ≤ maxLen) (hz : SmallHdrs l) (hi : HdsIn w a l) (hbn : bn ≤ maxLen) (left : Int) (h0 : 0 ≤ left) (h1 : left ≤ 1048576) :
    Calls Tryz.prog 21 #[.agg #[.int .i64 s, .slice a l.length cap, .slice b bn bc], .int .i64 left] w fun e w' => e = .returned (.int .i64 (szP left l bn)) ∧ Below w.heap.size w w' := by
  obtain ⟨W, hW⟩ : ∃ W, W = w.alloc (.cells #[.int .i64 s, .slice a l.length cap, .slice b bn bc] 52) := ⟨_, rfl⟩
  have HW : Hid (W = w.alloc (.cells #[.int .i64 s, .slice a l.length cap, .slice b bn bc] 52)) := hW
  have bW : Below w.heap.size w W := by rw [hW]; exact (Below.refl _ _).alloc (Nat.le_refl _) _
  have fW : Three W w.heap.size (.int .i64 s) (.slice a l.length cap) (.slice b bn bc) := by rw [hW]; exact Three.new _ _ _ _ _
  have HB : Hid (Below w.heap.size w W) := bW
  have C := szHeaderS_any W a cap l hl (hi.keep bW) hz left h0 h1
  have HV1 : Hid (szHL left l < 0 → szP left l bn = -1) := fun c => by unfold szP; rw [if_pos c]
  have HV2 : Hid (¬ szHL left l < 0 → szHL left l - (bn : Int) < 0 → szP left l bn = -1) := fun c c2 => by unfold szP; rw [if_neg c, if_pos c2]
  have HV3 : Hid (¬ szHL left l < 0 → ¬ szHL left l - (bn : Int) < 0 → szP left l bn = szHL left l - (bn : Int)) := fun c c2 => by unfold szP; rw [if_neg c, if_neg c2]
  have HLE : Hid (¬ szHL left l < 0 → szHL left l ≤ left) := szHL_le
  have F : Hid (Three W w.heap.size (.int .i64 s) (.slice a l.length cap) (.slice b bn bc)) := fW
  clear hW bW hi hz fW
  generalize szHL left l = z at *
  generalize szP left l bn = q at *
  generalize l.length = n at *
  go_enter Tryz.func21, Tryz.ntmps21
  go_wp2_with fail
  rw [← HW.out]
  refine C.mono ?_
  rintro e w1 ⟨rfl, hb1⟩
  have HB1 : Hid (Below w.heap.size w w1) := HB.out.trans (hb1.mono HB.out.size)
  have c2 := (F.out.keep hb1).c2
  clear hb1 HB C HW F
  by_cases c4 : z < 0
  · have HV : Hid (q = -1) := HV1.out c4
    clear HV1 HV2 HV3 HLE
    go_wp2_with fail
    go_ret
    exact ⟨ret_int HV.out.symm, HB1.out⟩
  have hz1 := HLE.out (by omega)
  have C2 := szByteS_any b bn bc z w1 (by omega) (by omega) hbn
  by_cases c5 : z - (bn : Int) < 0
  · have HV : Hid (q = -1) := HV2.out (by omega) (by omega)
    rw [if_pos c5] at C2
    clear HV1 HV2 HV3 HLE
    go_wp2_with fail
    refine C2.mono ?_
    rintro e w2 ⟨rfl, hw⟩
    obtain rfl := hw.symm
    clear C2 hw
    go_wp2_with fail
    go_ret
    exact ⟨ret_int HV.out.symm, HB1.out⟩
  · have HV : Hid (q = z - (bn : Int)) := HV3.out (by omega) (by omega)
    rw [if_neg c5] at C2
    clear HV1 HV2 HV3 HLE
    generalize z - (bn : Int) = y at *
    go_wp2_with fail
    refine C2.mono ?_
    rintro e w2 ⟨rfl, hw⟩
    obtain rfl := hw.symm
    clear C2 hw
    go_wp2_with fail
    go_ret
    exact ⟨ret_int HV.out.symm, HB1.out⟩
/-- A response of the law's own. -/
def RespRes (k : Nat) (s : Int) (l : List Hdr) (bl : List UInt8) (e : Ending) (w' : World) : Prop :=
  ∃ B, e = .returned (.agg #[.int .i64 s, .slice (some ⟨k + 3, 0, none⟩) l.length l.length, .slice (some ⟨B, 0, none⟩) bl.length bl.length]) ∧ QMine w' (k + 3) l ∧ BMine w' B bl ∧ k + 3 < B
set_option maxHeartbeats 4000000 in
theorem toResponse_any (w : World) (s : Int) (a : Option Addr) (cap : Nat) (l : List Hdr) (b : Option Addr) (bc : Nat) (bl : List UInt8) (hl : l.length ≤ 1048576) (hbl : bl.length ≤ 1048576) (hi : HdsIn w a l) (hib : BIn w b bl) :
    Calls Tryz.prog 24 #[.agg #[.int .i64 s, .slice a l.length cap, .slice b bl.length bc]] w fun e w' => RespRes w.heap.size s l bl e w' ∧ Below w.heap.size w w' := by
  obtain ⟨W, hW⟩ : ∃ W, W = ((w.alloc (.cells #[.int .i64 s, .slice a l.length cap, .slice b bl.length bc] 52)).alloc (.cells #[.int .i64 0, .slice none 0 0, .slice none 0 0] 61)).alloc (.cells #[.int .i64 s, .slice none 0 0, .slice none 0 0] 61) := ⟨_, rfl⟩
  have HW : Hid (W = ((w.alloc (.cells #[.int .i64 s, .slice a l.length cap, .slice b bl.length bc] 52)).alloc (.cells #[.int .i64 0, .slice none 0 0, .slice none 0 0] 61)).alloc (.cells #[.int .i64 s, .slice none 0 0, .slice none 0 0] 61)) := hW
  have bW : Below w.heap.size w W := by rw [hW]; exact (((Below.refl _ _).alloc (Nat.le_refl _) _).alloc (by simp) _).alloc (by simp; omega) _
  have hsz : W.heap.size = w.heap.size + 3 := by rw [hW]; simp
  have f2 : Three W (w.heap.size + 2) (.int .i64 s) (.slice none 0 0) (.slice none 0 0) := by
    rw [hW]
    have := Three.new ((w.alloc (.cells #[.int .i64 s, .slice a l.length cap, .slice b bl.length bc] 52)).alloc (.cells #[.int .i64 0, .slice none 0 0, .slice none 0 0] 61)) (.int .i64 s) (.slice none 0 0) (.slice none 0 0) 61
    simpa using this
  have f1 : Three W (w.heap.size + 1) (.int .i64 0) (.slice none 0 0) (.slice none 0 0) := by
    rw [hW]
    have := (Three.new (w.alloc (.cells #[.int .i64 s, .slice a l.length cap, .slice b bl.length bc] 52)) (.int .i64 0) (.slice none 0 0) (.slice none 0 0) 61).keep ((Below.refl _ _).alloc (Nat.le_refl _) (.cells #[.int .i64 s, .slice none 0 0, .slice none 0 0] 61))
    simpa using this
  have f0 : Three W w.heap.size (.int .i64 s) (.slice a l.length cap) (.slice b bl.length bc) := by
    rw [hW]
    exact ((Three.new w (.int .i64 s) (.slice a l.length cap) (.slice b bl.length bc) 52).keep ((Below.refl _ _).alloc (Nat.le_refl _) _)).keep ((Below.refl _ _).alloc (Nat.le_refl _) _)
  have C := toHeaderS_free W a cap l hl (hi.keep bW)
  rw [hsz] at C
  have HB : Hid (Below w.heap.size w W) := bW
  have HZ : Hid (W.heap.size = w.heap.size + 3) := hsz
  have HC : Hid (∀ X, Below w.heap.size w X → Calls Tryz.prog 60 #[.slice b bl.length bc] X fun e w' => e = .returned (.slice (some ⟨X.heap.size, 0, none⟩) bl.length bl.length) ∧ BMine w' X.heap.size bl ∧ Below X.heap.size X w') := fun X hb => toByteS_any X b bc bl hbl (hib.keep hb)
  have F : Hid (Three W w.heap.size (.int .i64 s) (.slice a l.length cap) (.slice b bl.length bc) ∧ Three W (w.heap.size + 1) (.int .i64 0) (.slice none 0 0) (.slice none 0 0) ∧ Three W (w.heap.size + 2) (.int .i64 s) (.slice none 0 0) (.slice none 0 0)) := ⟨f0, f1, f2⟩
  clear hW bW hi hsz f1 f2 f0 hib
  have HRes : Hid (∀ e w', RespRes w.heap.size s l bl e w' ↔ RespRes w.heap.size s l bl e w') := fun _ _ => Iff.rfl
  generalize hn : l.length = n at *
  generalize hbn : bl.length = bn at *
  have HN : Hid (l.length = n ∧ bl.length = bn) := ⟨hn, hbn⟩
  clear hn hbn HRes
  go_enter Tryz.func24, Tryz.ntmps24
  go_wp2_with fail
  rw [← HW.out]
  refine C.mono ?_
  rintro e w1 ⟨rfl, hat, hlt, hfr, hb1⟩
  have hb1' : Below W.heap.size W w1 := by rw [HZ.out]; exact hb1
  obtain ⟨g0, g1, g2⟩ := F.out
  have HM1 : Hid (QMine w1 (w.heap.size + 3) l ∧ Below w.heap.size w w1 ∧ Three w1 w.heap.size (.int .i64 s) (.slice a n cap) (.slice b bn bc) ∧ Three w1 (w.heap.size + 1) (.int .i64 0) (.slice none 0 0) (.slice none 0 0)) := ⟨⟨hat, hfr, hlt⟩, HB.out.trans (hb1'.mono HB.out.size), g0.keep hb1', g1.keep hb1'⟩
  obtain ⟨a0, a1, a2, af, al⟩ := g2.keep hb1'
  have a1f := af 1
  obtain ⟨V, hV⟩ : ∃ V, V = w1.setCell ⟨w.heap.size + 2, 1, none⟩ (.slice (some ⟨w.heap.size + 3, 0, none⟩) n n) := ⟨_, rfl⟩
  have HV : Hid (V = w1.setCell ⟨w.heap.size + 2, 1, none⟩ (.slice (some ⟨w.heap.size + 3, 0, none⟩) n n)) := hV
  have ne : ∀ k j o : Nat, k ≠ w.heap.size + 2 → (⟨w.heap.size + 2, j, none⟩ : Addr) ≠ ⟨k, o, none⟩ := fun k j o hk e => by have := congrArg Addr.block e; simp only at this; omega
  have keepc : ∀ k o, k ≠ w.heap.size + 2 → V.cell? ⟨k, o, none⟩ = w1.cell? ⟨k, o, none⟩ := fun k o hk => by rw [hV, World.cell?_setCell_other _ _ _ _ (ne _ _ _ hk)]
  have keepf : ∀ k o, V.frozen? ⟨k, o, none⟩ = w1.frozen? ⟨k, o, none⟩ := fun k o => by rw [hV, World.frozen?_setCell]
  have hVs : V.heap.size = w1.heap.size := by rw [hV]; simp
  have t2 : Three V (w.heap.size + 2) (.int .i64 s) (.slice (some ⟨w.heap.size + 3, 0, none⟩) n n) (.slice none 0 0) := by
    refine ⟨?_, ?_, ?_, fun o => by rw [keepf]; exact af o, by rw [hVs]; exact al⟩
    · rw [hV, World.cell?_setCell_other _ _ _ _ (hoff_ne (by omega))]; exact a0
    · rw [hV]; exact World.cell?_setCell_same _ _ _ a1
    · rw [hV, World.cell?_setCell_other _ _ _ _ (hoff_ne (by omega))]; exact a2
  obtain ⟨q1, q2, q3, q4⟩ := HM1.out
  have K : Hid (QMine V (w.heap.size + 3) l ∧ Below w.heap.size w V ∧ Three V w.heap.size (.int .i64 s) (.slice a n cap) (.slice b bn bc) ∧ Three V (w.heap.size + 1) (.int .i64 0) (.slice none 0 0) (.slice none 0 0) ∧ Three V (w.heap.size + 2) (.int .i64 s) (.slice (some ⟨w.heap.size + 3, 0, none⟩) n n) (.slice none 0 0)) := by
    refine ⟨⟨fun i r hr => by rw [keepc _ _ (by omega), keepc _ _ (by omega)]; exact q1.at0 i r hr, fun o => by rw [keepf]; exact q1.free o, by rw [hVs]; exact q1.lt⟩, by rw [hV]; exact q2.setCell (by simp) _, ?_, ?_, t2⟩
    · exact ⟨by rw [keepc _ _ (by omega)]; exact q3.c0, by rw [keepc _ _ (by omega)]; exact q3.c1, by rw [keepc _ _ (by omega)]; exact q3.c2, fun o => by rw [keepf]; exact q3.fr o, by rw [hVs]; exact q3.lt⟩
    · exact ⟨by rw [keepc _ _ (by omega)]; exact q4.c0, by rw [keepc _ _ (by omega)]; exact q4.c1, by rw [keepc _ _ (by omega)]; exact q4.c2, fun o => by rw [keepf]; exact q4.fr o, by rw [hVs]; exact q4.lt⟩
  have C2 := HC.out V K.out.2.1
  have gc2 := q3.c2
  clear hat hlt hfr hb1 hb1' C HW HB HZ F af al g0 g1 g2 HM1 q1 q2 q3 q4 t2 keepc keepf hVs ne hV HC
  go_wp2_with fail
  have hVx := HV.out
  rw [← hVx]
  refine C2.mono ?_
  rintro e w2 ⟨rfl, hbm, hb2⟩
  obtain ⟨q1, q2, q3, q4, q5⟩ := K.out
  have k1 := q1.keep hb2
  have k4 := q4.keep hb2
  have k5 := q5.keep hb2
  have HM : Hid (QMine w2 (w.heap.size + 3) l ∧ BMine w2 V.heap.size bl ∧ Below w.heap.size w w2 ∧ w.heap.size + 3 < V.heap.size) := ⟨k1, hbm, q2.trans (hb2.mono q2.size), q1.lt⟩
  obtain ⟨a0, a1, a2, af, _⟩ := k5
  obtain ⟨b0, b1, b2, bf, _⟩ := k4
  have a2f := af 2
  have b0f := bf 0
  have b1f := bf 1
  have b2f := bf 2
  clear C2 hb2 hbm K q1 q2 q3 q4 q5 k1 af bf HV hVx
  generalize V.heap.size = B at *
  go_wp2_with fail
  obtain ⟨m1, m2, m3, m4⟩ := HM.out
  obtain ⟨rfl, rfl⟩ := HN.out
  refine bodyPost_ret (v := .agg #[.int .i64 s, .slice (some ⟨w.heap.size + 3, 0, none⟩) l.length l.length, .slice (some ⟨B, 0, none⟩) bl.length bl.length]) ?_ rfl ⟨⟨B, rfl, ?_, ?_, m4⟩, ?_⟩
  · simp [results, Tryz.results24, go_sem, b0, b1, b2]
  · have ne : ∀ k j o : Nat, k < w.heap.size + 3 → (⟨k, j, none⟩ : Addr) ≠ ⟨w.heap.size + 3, o, none⟩ := fun k j o hk e => by have := congrArg Addr.block e; simp only at this; omega
    refine ⟨fun i r hr => ?_, fun o => by simp only [World.frozen?_setCell]; exact m1.free o, by simpa using m1.lt⟩
    rw [World.cell?_setCell_other _ _ _ _ (ne _ _ _ (by omega)), World.cell?_setCell_other _ _ _ _ (ne _ _ _ (by omega)), World.cell?_setCell_other _ _ _ _ (ne _ _ _ (by omega)), World.cell?_setCell_other _ _ _ _ (ne _ _ _ (by omega)), World.cell?_setCell_other _ _ _ _ (ne _ _ _ (by omega)), World.cell?_setCell_other _ _ _ _ (ne _ _ _ (by omega)), World.cell?_setCell_other _ _ _ _ (ne _ _ _ (by omega)), World.cell?_setCell_other _ _ _ _ (ne _ _ _ (by omega))]
    exact m1.at0 i r hr
  · have ne : ∀ k j o : Nat, k < w.heap.size + 3 → (⟨k, j, none⟩ : Addr) ≠ ⟨B, o, none⟩ := fun k j o hk e => by have := congrArg Addr.block e; simp only at this; omega
    refine ⟨fun i r hr => ?_, fun o ho => by simp only [World.frozen?_setCell]; exact m2.free o ho, by simpa using m2.lt⟩
    rw [World.cell?_setCell_other _ _ _ _ (ne _ _ _ (by omega)), World.cell?_setCell_other _ _ _ _ (ne _ _ _ (by omega)), World.cell?_setCell_other _ _ _ _ (ne _ _ _ (by omega)), World.cell?_setCell_other _ _ _ _ (ne _ _ _ (by omega))]
    exact m2.at0 i r hr
  · exact (((m3.setCell (by simp; omega) _).setCell (by simp) _).setCell (by simp) _).setCell (by simp) _
set_option maxHeartbeats 2000000 in
theorem eqResponse_same (W : World) (s : Int) (b1 b2 : Nat) (l : List Hdr) (d1 d2 : Nat) (bl : List UInt8) (hl : l.length ≤ 1048576) (hbl : bl.length ≤ 1048576) (h1 : HeadsAt W b1 0 l) (h2 : HeadsAt W b2 0 l) (k1 : BMine W d1 bl) (k2 : BMine W d2 bl) :
    Calls Tryz.prog 28 #[.agg #[.int .i64 s, .slice (some ⟨b1, 0, none⟩) l.length l.length, .slice (some ⟨d1, 0, none⟩) bl.length bl.length], .agg #[.int .i64 s, .slice (some ⟨b2, 0, none⟩) l.length l.length, .slice (some ⟨d2, 0, none⟩) bl.length bl.length]] W fun e w' => e = .returned (.bool true) ∧ Below W.heap.size W w' := by
  obtain ⟨V, hV⟩ : ∃ V, V = (W.alloc (.cells #[.int .i64 s, .slice (some ⟨b1, 0, none⟩) l.length l.length, .slice (some ⟨d1, 0, none⟩) bl.length bl.length] 61)).alloc (.cells #[.int .i64 s, .slice (some ⟨b2, 0, none⟩) l.length l.length, .slice (some ⟨d2, 0, none⟩) bl.length bl.length] 61) := ⟨_, rfl⟩
  have HV : Hid (V = (W.alloc (.cells #[.int .i64 s, .slice (some ⟨b1, 0, none⟩) l.length l.length, .slice (some ⟨d1, 0, none⟩) bl.length bl.length] 61)).alloc (.cells #[.int .i64 s, .slice (some ⟨b2, 0, none⟩) l.length l.length, .slice (some ⟨d2, 0, none⟩) bl.length bl.length] 61)) := hV
  have bW : Below W.heap.size W V := by rw [hV]; exact ((Below.refl _ _).alloc (Nat.le_refl _) _).alloc (by simp) _
  have t2 : Three V (W.heap.size + 1) (.int .i64 s) (.slice (some ⟨b2, 0, none⟩) l.length l.length) (.slice (some ⟨d2, 0, none⟩) bl.length bl.length) := by
    rw [hV]
    have := Three.new (W.alloc (.cells #[.int .i64 s, .slice (some ⟨b1, 0, none⟩) l.length l.length, .slice (some ⟨d1, 0, none⟩) bl.length bl.length] 61)) (.int .i64 s) (.slice (some ⟨b2, 0, none⟩) l.length l.length) (.slice (some ⟨d2, 0, none⟩) bl.length bl.length) 61
    simpa using this
  have t1 : Three V W.heap.size (.int .i64 s) (.slice (some ⟨b1, 0, none⟩) l.length l.length) (.slice (some ⟨d1, 0, none⟩) bl.length bl.length) := by
    rw [hV]
    exact (Three.new W (.int .i64 s) (.slice (some ⟨b1, 0, none⟩) l.length l.length) (.slice (some ⟨d1, 0, none⟩) bl.length bl.length) 61).keep ((Below.refl _ _).alloc (Nat.le_refl _) _)
  have C := eqHeaderS_same V b1 0 b2 0 l.length l.length l hl (h1.keep bW) (h2.keep bW)
  have K : Hid (Below W.heap.size W V ∧ Three V W.heap.size (.int .i64 s) (.slice (some ⟨b1, 0, none⟩) l.length l.length) (.slice (some ⟨d1, 0, none⟩) bl.length bl.length) ∧ Three V (W.heap.size + 1) (.int .i64 s) (.slice (some ⟨b2, 0, none⟩) l.length l.length) (.slice (some ⟨d2, 0, none⟩) bl.length bl.length)) := ⟨bW, t1, t2⟩
  have HC : Hid (∀ X, Below W.heap.size W X → Calls Tryz.prog 67 #[.slice (some ⟨d1, 0, none⟩) bl.length bl.length, .slice (some ⟨d2, 0, none⟩) bl.length bl.length] X fun e w' => e = .returned (.bool true) ∧ Below X.heap.size X w') := fun X hb => eqByteS_same X _ _ _ _ bl hbl (k1.keep hb).in (k2.keep hb).in
  clear hV bW h1 h2 k1 k2 t1 t2
  generalize l.length = n at *
  generalize bl.length = bn at *
  go_enter Tryz.func28, Tryz.ntmps28
  go_wp2_with fail
  rw [← HV.out]
  refine C.mono ?_
  rintro e w1 ⟨rfl, hb1⟩
  have HB1 : Hid (Below W.heap.size W w1) := K.out.1.trans (hb1.mono K.out.1.size)
  have p2 := (K.out.2.1.keep hb1).c2
  have q2 := (K.out.2.2.keep hb1).c2
  have C2 := HC.out w1 HB1.out
  clear hb1 C K HV HC
  go_wp2_with fail
  refine C2.mono ?_
  rintro e w2 ⟨rfl, hb2⟩
  have HB2 : Hid (Below W.heap.size W w2) := HB1.out.trans (hb2.mono HB1.out.size)
  clear hb2 C2 HB1 p2 q2
  go_wp2_with fail
  go_ret
  exact ⟨rfl, HB2.out⟩
end Go.Proofs.YtolkgnnjocmkdaaGreatDoor
/-
  Entries, handed over by the laws: copies.
-/
namespace Go.Proofs.YtolkgnnjocmkdaaGreatDoor
open Go.ChangeShapes Go.WideShapes Go.ChangeAt Go.RowKit Go.Sort
theorem QMine.off1 {W : World} {B b i : Nat} {l : List Hdr} (h : QMine W B l) (x : Value) (hne : b ≠ B) : QMine (W.setCell ⟨b, i, none⟩ x) B l := by
  have ne : ∀ o : Nat, (⟨b, i, none⟩ : Addr) ≠ ⟨B, o, none⟩ := fun o q => hne (congrArg Addr.block q)
  exact ⟨fun k r hr => by rw [World.cell?_setCell_other _ _ _ _ (ne _), World.cell?_setCell_other _ _ _ _ (ne _)]; exact h.at0 k r hr, fun o => by rw [World.frozen?_setCell]; exact h.free o, by simpa using h.lt⟩
theorem BMine.off1 {W : World} {B b i : Nat} {l : List UInt8} (h : BMine W B l) (x : Value) (hne : b ≠ B) : BMine (W.setCell ⟨b, i, none⟩ x) B l := by
  have ne : ∀ o : Nat, (⟨b, i, none⟩ : Addr) ≠ ⟨B, o, none⟩ := fun o q => hne (congrArg Addr.block q)
  exact ⟨fun k r hr => by rw [World.cell?_setCell_other _ _ _ _ (ne _)]; exact h.at0 k r hr, fun o ho => by rw [World.frozen?_setCell]; exact h.free o ho, by simpa using h.lt⟩
theorem TMine.off1 {W : World} {B b i : Nat} {l : List ByteArray} (h : TMine W B l) (x : Value) (hne : b ≠ B) : TMine (W.setCell ⟨b, i, none⟩ x) B l := by
  have ne : ∀ o : Nat, (⟨b, i, none⟩ : Addr) ≠ ⟨B, o, none⟩ := fun o q => hne (congrArg Addr.block q)
  exact ⟨fun k r hr => by rw [World.cell?_setCell_other _ _ _ _ (ne _)]; exact h.at0 k r hr, fun o ho => by rw [World.frozen?_setCell]; exact h.free o ho, by simpa using h.lt⟩
set_option maxHeartbeats 8000000 in
theorem toEntry_any (w : World) (key : ByteArray) (st : Int) (ha : Option Addr) (hc : Nat) (ba : Option Addr) (bc : Nat) (t g l s e : Int) (b1 b2 : Bool) (ta : Option Addr) (tc : Nat) (pins : Int) (hs : List Hdr) (bs : List UInt8) (ts : List ByteArray) (hhl : hs.length ≤ 1048576) (hbl : bs.length ≤ 1048576) (htl : ts.length ≤ 1048576) (hH : HdsIn w ha hs) (hB : BIn w ba bs) (hT : TIn w ta ts) :
    Calls Tryz.prog 12 #[.agg #[.string key, .int .i64 st, .slice ha hs.length hc, .slice ba bs.length bc, .int .i64 t, .int .i64 g, .int .i64 l, .int .i64 s, .int .i64 e, .bool b1, .bool b2, .slice ta ts.length tc, .int .i64 pins]] w fun ee w' => (∃ B2 B3, ee = .returned (.agg #[.string key, .int .i64 st, .slice (some ⟨w.heap.size + 3, 0, none⟩) hs.length hs.length, .slice (some ⟨B2, 0, none⟩) bs.length bs.length, .int .i64 t, .int .i64 g, .int .i64 l, .int .i64 s, .int .i64 e, .bool b1, .bool b2, .slice (some ⟨B3, 0, none⟩) ts.length ts.length, .int .i64 pins]) ∧ QMine w' (w.heap.size + 3) hs ∧ BMine w' B2 bs ∧ TMine w' B3 ts ∧ w.heap.size + 3 < B2 ∧ B2 < B3) ∧ Below w.heap.size w w' := by
  obtain ⟨W, hW⟩ : ∃ W, W = ((w.alloc (.cells #[.string key, .int .i64 st, .slice ha hs.length hc, .slice ba bs.length bc, .int .i64 t, .int .i64 g, .int .i64 l, .int .i64 s, .int .i64 e, .bool b1, .bool b2, .slice ta ts.length tc, .int .i64 pins] 30)).alloc (.cells #[.string ⟨#[]⟩, .int .i64 0, .slice none 0 0, .slice none 0 0, .int .i64 0, .int .i64 0, .int .i64 0, .int .i64 0, .int .i64 0, .bool false, .bool false, .slice none 0 0, .int .i64 0] 42)).alloc (.cells #[.string key, .int .i64 st, .slice none 0 0, .slice none 0 0, .int .i64 0, .int .i64 0, .int .i64 0, .int .i64 0, .int .i64 0, .bool false, .bool false, .slice none 0 0, .int .i64 0] 42) := ⟨_, rfl⟩
  have bW : Below w.heap.size w W := by rw [hW]; exact (((Below.refl _ _).alloc (Nat.le_refl _) _).alloc (by simp) _).alloc (by simp; omega) _
  have hsz : W.heap.size = w.heap.size + 3 := by rw [hW]; simp
  have HW : Hid (W = ((w.alloc (.cells #[.string key, .int .i64 st, .slice ha hs.length hc, .slice ba bs.length bc, .int .i64 t, .int .i64 g, .int .i64 l, .int .i64 s, .int .i64 e, .bool b1, .bool b2, .slice ta ts.length tc, .int .i64 pins] 30)).alloc (.cells #[.string ⟨#[]⟩, .int .i64 0, .slice none 0 0, .slice none 0 0, .int .i64 0, .int .i64 0, .int .i64 0, .int .i64 0, .int .i64 0, .bool false, .bool false, .slice none 0 0, .int .i64 0] 42)).alloc (.cells #[.string key, .int .i64 st, .slice none 0 0, .slice none 0 0, .int .i64 0, .int .i64 0, .int .i64 0, .int .i64 0, .int .i64 0, .bool false, .bool false, .slice none 0 0, .int .i64 0] 42)) := hW
  have f2 : E13 W (w.heap.size + 2) (.string key) (.int .i64 st) (.slice none 0 0) (.slice none 0 0) (.int .i64 0) (.int .i64 0) (.int .i64 0) (.int .i64 0) (.int .i64 0) (.bool false) (.bool false) (.slice none 0 0) (.int .i64 0) := by
    rw [hW]
    have := E13.new ((w.alloc (.cells #[.string key, .int .i64 st, .slice ha hs.length hc, .slice ba bs.length bc, .int .i64 t, .int .i64 g, .int .i64 l, .int .i64 s, .int .i64 e, .bool b1, .bool b2, .slice ta ts.length tc, .int .i64 pins] 30)).alloc (.cells #[.string ⟨#[]⟩, .int .i64 0, .slice none 0 0, .slice none 0 0, .int .i64 0, .int .i64 0, .int .i64 0, .int .i64 0, .int .i64 0, .bool false, .bool false, .slice none 0 0, .int .i64 0] 42)) (.string key) (.int .i64 st) (.slice none 0 0) (.slice none 0 0) (.int .i64 0) (.int .i64 0) (.int .i64 0) (.int .i64 0) (.int .i64 0) (.bool false) (.bool false) (.slice none 0 0) (.int .i64 0) 42
    simpa using this
  have f1 : E13 W (w.heap.size + 1) (.string ⟨#[]⟩) (.int .i64 0) (.slice none 0 0) (.slice none 0 0) (.int .i64 0) (.int .i64 0) (.int .i64 0) (.int .i64 0) (.int .i64 0) (.bool false) (.bool false) (.slice none 0 0) (.int .i64 0) := by
    rw [hW]
    have := (E13.new (w.alloc (.cells #[.string key, .int .i64 st, .slice ha hs.length hc, .slice ba bs.length bc, .int .i64 t, .int .i64 g, .int .i64 l, .int .i64 s, .int .i64 e, .bool b1, .bool b2, .slice ta ts.length tc, .int .i64 pins] 30)) (.string ⟨#[]⟩) (.int .i64 0) (.slice none 0 0) (.slice none 0 0) (.int .i64 0) (.int .i64 0) (.int .i64 0) (.int .i64 0) (.int .i64 0) (.bool false) (.bool false) (.slice none 0 0) (.int .i64 0) 42).keep ((Below.refl _ _).alloc (Nat.le_refl _) (.cells #[.string key, .int .i64 st, .slice none 0 0, .slice none 0 0, .int .i64 0, .int .i64 0, .int .i64 0, .int .i64 0, .int .i64 0, .bool false, .bool false, .slice none 0 0, .int .i64 0] 42))
    simpa using this
  have f0 : E13 W w.heap.size (.string key) (.int .i64 st) (.slice ha hs.length hc) (.slice ba bs.length bc) (.int .i64 t) (.int .i64 g) (.int .i64 l) (.int .i64 s) (.int .i64 e) (.bool b1) (.bool b2) (.slice ta ts.length tc) (.int .i64 pins) := by
    rw [hW]
    exact ((E13.new w (.string key) (.int .i64 st) (.slice ha hs.length hc) (.slice ba bs.length bc) (.int .i64 t) (.int .i64 g) (.int .i64 l) (.int .i64 s) (.int .i64 e) (.bool b1) (.bool b2) (.slice ta ts.length tc) (.int .i64 pins) 30).keep ((Below.refl _ _).alloc (Nat.le_refl _) _)).keep ((Below.refl _ _).alloc (Nat.le_refl _) _)
  have K0 : Hid (Below w.heap.size w W ∧ E13 W w.heap.size (.string key) (.int .i64 st) (.slice ha hs.length hc) (.slice ba bs.length bc) (.int .i64 t) (.int .i64 g) (.int .i64 l) (.int .i64 s) (.int .i64 e) (.bool b1) (.bool b2) (.slice ta ts.length tc) (.int .i64 pins) ∧ E13 W (w.heap.size + 1) (.string ⟨#[]⟩) (.int .i64 0) (.slice none 0 0) (.slice none 0 0) (.int .i64 0) (.int .i64 0) (.int .i64 0) (.int .i64 0) (.int .i64 0) (.bool false) (.bool false) (.slice none 0 0) (.int .i64 0) ∧ E13 W (w.heap.size + 2) (.string key) (.int .i64 st) (.slice none 0 0) (.slice none 0 0) (.int .i64 0) (.int .i64 0) (.int .i64 0) (.int .i64 0) (.int .i64 0) (.bool false) (.bool false) (.slice none 0 0) (.int .i64 0) ∧ W.heap.size = w.heap.size + 3) := ⟨bW, f0, f1, f2, hsz⟩
  have C := toHeaderS_free W ha hc hs hhl (hH.keep bW)
  rw [hsz] at C
  have HCB : Hid (∀ X, Below w.heap.size w X → Calls Tryz.prog 60 #[.slice ba bs.length bc] X fun e w' => e = .returned (.slice (some ⟨X.heap.size, 0, none⟩) bs.length bs.length) ∧ BMine w' X.heap.size bs ∧ Below X.heap.size X w') := fun X hb => toByteS_any X ba bc bs hbl (hB.keep hb)
  have HCT : Hid (∀ X, Below w.heap.size w X → Calls Tryz.prog 62 #[.slice ta ts.length tc] X fun e w' => e = .returned (.slice (some ⟨X.heap.size, 0, none⟩) ts.length ts.length) ∧ TMine w' X.heap.size ts ∧ Below X.heap.size X w') := fun X hb => toStringS_any X ta tc ts htl (hT.keep hb)
  have HCM : Hid (∀ X, Calls Tryz.prog 61 #[.agg #[.int .i64 t, .int .i64 g, .int .i64 l, .int .i64 s, .int .i64 e, .bool b1, .bool b2]] X fun r w' => r = .returned (.agg #[.int .i64 t, .int .i64 g, .int .i64 l, .int .i64 s, .int .i64 e, .bool b1, .bool b2]) ∧ Below X.heap.size X w') := fun X => toMeta_any t g l s e b1 b2 X
  clear hW bW hsz f0 f1 f2 hH hB hT hhl hbl htl
  generalize hn1 : hs.length = hl at *
  generalize hn2 : bs.length = bn at *
  generalize hn3 : ts.length = tn at *
  clear hn1 hn2 hn3
  go_enter Tryz.func12, Tryz.ntmps12
  go_wp2_with fail
  rw [← HW.out]
  refine C.mono ?_
  rintro e0 w1 ⟨rfl, hat, hlt, hfr, hb1⟩
  have hb1' : Below W.heap.size W w1 := by rw [K0.out.2.2.2.2]; exact hb1
  have K1 : Hid (Below w.heap.size w w1 ∧ E13 w1 w.heap.size (.string key) (.int .i64 st) (.slice ha hl hc) (.slice ba bn bc) (.int .i64 t) (.int .i64 g) (.int .i64 l) (.int .i64 s) (.int .i64 e) (.bool b1) (.bool b2) (.slice ta tn tc) (.int .i64 pins) ∧ E13 w1 (w.heap.size + 1) (.string ⟨#[]⟩) (.int .i64 0) (.slice none 0 0) (.slice none 0 0) (.int .i64 0) (.int .i64 0) (.int .i64 0) (.int .i64 0) (.int .i64 0) (.bool false) (.bool false) (.slice none 0 0) (.int .i64 0) ∧ E13 w1 (w.heap.size + 2) (.string key) (.int .i64 st) (.slice none 0 0) (.slice none 0 0) (.int .i64 0) (.int .i64 0) (.int .i64 0) (.int .i64 0) (.int .i64 0) (.bool false) (.bool false) (.slice none 0 0) (.int .i64 0) ∧ QMine w1 (w.heap.size + 3) hs) := ⟨K0.out.1.trans (hb1'.mono K0.out.1.size), K0.out.2.1.keep hb1', K0.out.2.2.1.keep hb1', K0.out.2.2.2.1.keep hb1', ⟨hat, hfr, hlt⟩⟩
  clear C hat hlt hfr hb1 hb1' K0 HW
  obtain ⟨V1, hV1⟩ : ∃ V, V = w1.setCell ⟨w.heap.size + 2, 2, none⟩ (.slice (some ⟨w.heap.size + 3, 0, none⟩) hl hl) := ⟨_, rfl⟩
  have HV1 : Hid (V1 = w1.setCell ⟨w.heap.size + 2, 2, none⟩ (.slice (some ⟨w.heap.size + 3, 0, none⟩) hl hl)) := hV1
  clear hV1
  have K1b : Hid (Below w.heap.size w V1 ∧ E13 V1 w.heap.size (.string key) (.int .i64 st) (.slice ha hl hc) (.slice ba bn bc) (.int .i64 t) (.int .i64 g) (.int .i64 l) (.int .i64 s) (.int .i64 e) (.bool b1) (.bool b2) (.slice ta tn tc) (.int .i64 pins) ∧ E13 V1 (w.heap.size + 1) (.string ⟨#[]⟩) (.int .i64 0) (.slice none 0 0) (.slice none 0 0) (.int .i64 0) (.int .i64 0) (.int .i64 0) (.int .i64 0) (.int .i64 0) (.bool false) (.bool false) (.slice none 0 0) (.int .i64 0) ∧ E13 V1 (w.heap.size + 2) (.string key) (.int .i64 st) (.slice (some ⟨w.heap.size + 3, 0, none⟩) hl hl) (.slice none 0 0) (.int .i64 0) (.int .i64 0) (.int .i64 0) (.int .i64 0) (.int .i64 0) (.bool false) (.bool false) (.slice none 0 0) (.int .i64 0) ∧ QMine V1 (w.heap.size + 3) hs) := by
    rw [HV1.out]
    exact ⟨K1.out.1.setCell (by simp) _, K1.out.2.1.off (by omega), K1.out.2.2.1.off (by omega), K1.out.2.2.2.1.set2 _, K1.out.2.2.2.2.off1 _ (by omega)⟩
  have a2 := K1.out.2.2.2.1.c2
  have af := K1.out.2.2.2.1.fr 2
  have g3 := K1.out.2.1.c3
  clear K1
  go_wp2_with fail
  rw [← HV1.out]
  clear a2 af g3 HV1
  refine (HCB.out V1 K1b.out.1).mono ?_
  rintro e0 w2 ⟨rfl, hbm, hb2⟩
  obtain ⟨B2, hB2⟩ : ∃ B, V1.heap.size = B := ⟨_, rfl⟩
  have K2 : Hid (Below w.heap.size w w2 ∧ E13 w2 w.heap.size (.string key) (.int .i64 st) (.slice ha hl hc) (.slice ba bn bc) (.int .i64 t) (.int .i64 g) (.int .i64 l) (.int .i64 s) (.int .i64 e) (.bool b1) (.bool b2) (.slice ta tn tc) (.int .i64 pins) ∧ E13 w2 (w.heap.size + 1) (.string ⟨#[]⟩) (.int .i64 0) (.slice none 0 0) (.slice none 0 0) (.int .i64 0) (.int .i64 0) (.int .i64 0) (.int .i64 0) (.int .i64 0) (.bool false) (.bool false) (.slice none 0 0) (.int .i64 0) ∧ E13 w2 (w.heap.size + 2) (.string key) (.int .i64 st) (.slice (some ⟨w.heap.size + 3, 0, none⟩) hl hl) (.slice none 0 0) (.int .i64 0) (.int .i64 0) (.int .i64 0) (.int .i64 0) (.int .i64 0) (.bool false) (.bool false) (.slice none 0 0) (.int .i64 0) ∧ QMine w2 (w.heap.size + 3) hs ∧ BMine w2 B2 bs ∧ w.heap.size + 3 < B2) := ⟨K1b.out.1.trans (hb2.mono K1b.out.1.size), K1b.out.2.1.keep hb2, K1b.out.2.2.1.keep hb2, K1b.out.2.2.2.1.keep hb2, K1b.out.2.2.2.2.keep hb2, hB2 ▸ hbm, hB2 ▸ K1b.out.2.2.2.2.lt⟩
  rw [hB2]
  clear K1b hbm hb2 hB2 HCB
  obtain ⟨V2, hV2⟩ : ∃ V, V = w2.setCell ⟨w.heap.size + 2, 3, none⟩ (.slice (some ⟨B2, 0, none⟩) bn bn) := ⟨_, rfl⟩
  have HV2 : Hid (V2 = w2.setCell ⟨w.heap.size + 2, 3, none⟩ (.slice (some ⟨B2, 0, none⟩) bn bn)) := hV2
  clear hV2
  have K2b : Hid (Below w.heap.size w V2 ∧ E13 V2 w.heap.size (.string key) (.int .i64 st) (.slice ha hl hc) (.slice ba bn bc) (.int .i64 t) (.int .i64 g) (.int .i64 l) (.int .i64 s) (.int .i64 e) (.bool b1) (.bool b2) (.slice ta tn tc) (.int .i64 pins) ∧ E13 V2 (w.heap.size + 1) (.string ⟨#[]⟩) (.int .i64 0) (.slice none 0 0) (.slice none 0 0) (.int .i64 0) (.int .i64 0) (.int .i64 0) (.int .i64 0) (.int .i64 0) (.bool false) (.bool false) (.slice none 0 0) (.int .i64 0) ∧ E13 V2 (w.heap.size + 2) (.string key) (.int .i64 st) (.slice (some ⟨w.heap.size + 3, 0, none⟩) hl hl) (.slice (some ⟨B2, 0, none⟩) bn bn) (.int .i64 0) (.int .i64 0) (.int .i64 0) (.int .i64 0) (.int .i64 0) (.bool false) (.bool false) (.slice none 0 0) (.int .i64 0) ∧ QMine V2 (w.heap.size + 3) hs ∧ BMine V2 B2 bs ∧ w.heap.size + 3 < B2) := by
    rw [HV2.out]
    obtain ⟨p1, p2, p3, p4, p5, p6, p7⟩ := K2.out
    exact ⟨p1.setCell (by simp) _, p2.off (by omega), p3.off (by omega), p4.set3 _, p5.off1 _ (by omega), p6.off1 _ (by omega), p7⟩
  have a2 := K2.out.2.2.2.1.c3
  have af := K2.out.2.2.2.1.fr 3
  have g4 := K2.out.2.1.c4
  have g5 := K2.out.2.1.c5
  have g6 := K2.out.2.1.c6
  have g7 := K2.out.2.1.c7
  have g8 := K2.out.2.1.c8
  have g9 := K2.out.2.1.c9
  have g10 := K2.out.2.1.c10
  clear K2
  go_wp2_with fail
  rw [← HV2.out]
  clear a2 af HV2 g4 g5 g6 g7 g8 g9 g10
  refine (HCM.out V2).mono ?_
  rintro e0 w3 ⟨rfl, hb3⟩
  have K3 : Hid (Below w.heap.size w w3 ∧ E13 w3 w.heap.size (.string key) (.int .i64 st) (.slice ha hl hc) (.slice ba bn bc) (.int .i64 t) (.int .i64 g) (.int .i64 l) (.int .i64 s) (.int .i64 e) (.bool b1) (.bool b2) (.slice ta tn tc) (.int .i64 pins) ∧ E13 w3 (w.heap.size + 1) (.string ⟨#[]⟩) (.int .i64 0) (.slice none 0 0) (.slice none 0 0) (.int .i64 0) (.int .i64 0) (.int .i64 0) (.int .i64 0) (.int .i64 0) (.bool false) (.bool false) (.slice none 0 0) (.int .i64 0) ∧ E13 w3 (w.heap.size + 2) (.string key) (.int .i64 st) (.slice (some ⟨w.heap.size + 3, 0, none⟩) hl hl) (.slice (some ⟨B2, 0, none⟩) bn bn) (.int .i64 0) (.int .i64 0) (.int .i64 0) (.int .i64 0) (.int .i64 0) (.bool false) (.bool false) (.slice none 0 0) (.int .i64 0) ∧ QMine w3 (w.heap.size + 3) hs ∧ BMine w3 B2 bs ∧ w.heap.size + 3 < B2) := by
    obtain ⟨p1, p2, p3, p4, p5, p6, p7⟩ := K2b.out
    exact ⟨p1.trans (hb3.mono p1.size), p2.keep hb3, p3.keep hb3, p4.keep hb3, p5.keep hb3, p6.keep hb3, p7⟩
  clear K2b hb3 HCM
  obtain ⟨V3, hV3⟩ : ∃ V, V = (((((((w3.setCell ⟨w.heap.size + 2, 4, none⟩ (.int .i64 t)).setCell ⟨w.heap.size + 2, 5, none⟩ (.int .i64 g)).setCell ⟨w.heap.size + 2, 6, none⟩ (.int .i64 l)).setCell ⟨w.heap.size + 2, 7, none⟩ (.int .i64 s)).setCell ⟨w.heap.size + 2, 8, none⟩ (.int .i64 e)).setCell ⟨w.heap.size + 2, 9, none⟩ (.bool b1)).setCell ⟨w.heap.size + 2, 10, none⟩ (.bool b2)) := ⟨_, rfl⟩
  have HV3 : Hid (V3 = (((((((w3.setCell ⟨w.heap.size + 2, 4, none⟩ (.int .i64 t)).setCell ⟨w.heap.size + 2, 5, none⟩ (.int .i64 g)).setCell ⟨w.heap.size + 2, 6, none⟩ (.int .i64 l)).setCell ⟨w.heap.size + 2, 7, none⟩ (.int .i64 s)).setCell ⟨w.heap.size + 2, 8, none⟩ (.int .i64 e)).setCell ⟨w.heap.size + 2, 9, none⟩ (.bool b1)).setCell ⟨w.heap.size + 2, 10, none⟩ (.bool b2))) := hV3
  clear hV3
  have K3b : Hid (Below w.heap.size w V3 ∧ E13 V3 w.heap.size (.string key) (.int .i64 st) (.slice ha hl hc) (.slice ba bn bc) (.int .i64 t) (.int .i64 g) (.int .i64 l) (.int .i64 s) (.int .i64 e) (.bool b1) (.bool b2) (.slice ta tn tc) (.int .i64 pins) ∧ E13 V3 (w.heap.size + 1) (.string ⟨#[]⟩) (.int .i64 0) (.slice none 0 0) (.slice none 0 0) (.int .i64 0) (.int .i64 0) (.int .i64 0) (.int .i64 0) (.int .i64 0) (.bool false) (.bool false) (.slice none 0 0) (.int .i64 0) ∧ E13 V3 (w.heap.size + 2) (.string key) (.int .i64 st) (.slice (some ⟨w.heap.size + 3, 0, none⟩) hl hl) (.slice (some ⟨B2, 0, none⟩) bn bn) (.int .i64 t) (.int .i64 g) (.int .i64 l) (.int .i64 s) (.int .i64 e) (.bool b1) (.bool b2) (.slice none 0 0) (.int .i64 0) ∧ QMine V3 (w.heap.size + 3) hs ∧ BMine V3 B2 bs ∧ w.heap.size + 3 < B2) := by
    rw [HV3.out]
    obtain ⟨p1, p2, p3, p4, p5, p6, p7⟩ := K3.out
    exact ⟨(((((((p1.setCell (by simp) _).setCell (by simp) _).setCell (by simp) _).setCell (by simp) _).setCell (by simp) _).setCell (by simp) _).setCell (by simp) _), (((((((p2.off (by omega)).off (by omega)).off (by omega)).off (by omega)).off (by omega)).off (by omega)).off (by omega)), (((((((p3.off (by omega)).off (by omega)).off (by omega)).off (by omega)).off (by omega)).off (by omega)).off (by omega)), (((((((p4.set4 _).set5 _).set6 _).set7 _).set8 _).set9 _).set10 _), (((((((p5.off1 _ (by omega)).off1 _ (by omega)).off1 _ (by omega)).off1 _ (by omega)).off1 _ (by omega)).off1 _ (by omega)).off1 _ (by omega)), (((((((p6.off1 _ (by omega)).off1 _ (by omega)).off1 _ (by omega)).off1 _ (by omega)).off1 _ (by omega)).off1 _ (by omega)).off1 _ (by omega)), p7⟩
  have a4 := K3.out.2.2.2.1.c4
  have af4 := K3.out.2.2.2.1.fr 4
  have a5 := K3.out.2.2.2.1.c5
  have af5 := K3.out.2.2.2.1.fr 5
  have a6 := K3.out.2.2.2.1.c6
  have af6 := K3.out.2.2.2.1.fr 6
  have a7 := K3.out.2.2.2.1.c7
  have af7 := K3.out.2.2.2.1.fr 7
  have a8 := K3.out.2.2.2.1.c8
  have af8 := K3.out.2.2.2.1.fr 8
  have a9 := K3.out.2.2.2.1.c9
  have af9 := K3.out.2.2.2.1.fr 9
  have a10 := K3.out.2.2.2.1.c10
  have af10 := K3.out.2.2.2.1.fr 10
  have g11 := K3.out.2.1.c11
  clear K3
  go_wp2_with fail
  rw [← HV3.out]
  clear g11 HV3 a4 af4 a5 af5 a6 af6 a7 af7 a8 af8 a9 af9 a10 af10
  refine (HCT.out V3 K3b.out.1).mono ?_
  rintro e0 w4 ⟨rfl, hbm, hb4⟩
  obtain ⟨B3, hB3⟩ : ∃ B, V3.heap.size = B := ⟨_, rfl⟩
  have K4 : Hid (Below w.heap.size w w4 ∧ E13 w4 w.heap.size (.string key) (.int .i64 st) (.slice ha hl hc) (.slice ba bn bc) (.int .i64 t) (.int .i64 g) (.int .i64 l) (.int .i64 s) (.int .i64 e) (.bool b1) (.bool b2) (.slice ta tn tc) (.int .i64 pins) ∧ E13 w4 (w.heap.size + 1) (.string ⟨#[]⟩) (.int .i64 0) (.slice none 0 0) (.slice none 0 0) (.int .i64 0) (.int .i64 0) (.int .i64 0) (.int .i64 0) (.int .i64 0) (.bool false) (.bool false) (.slice none 0 0) (.int .i64 0) ∧ E13 w4 (w.heap.size + 2) (.string key) (.int .i64 st) (.slice (some ⟨w.heap.size + 3, 0, none⟩) hl hl) (.slice (some ⟨B2, 0, none⟩) bn bn) (.int .i64 t) (.int .i64 g) (.int .i64 l) (.int .i64 s) (.int .i64 e) (.bool b1) (.bool b2) (.slice none 0 0) (.int .i64 0) ∧ QMine w4 (w.heap.size + 3) hs ∧ BMine w4 B2 bs ∧ w.heap.size + 3 < B2 ∧ TMine w4 B3 ts ∧ B2 < B3) := by
    obtain ⟨p1, p2, p3, p4, p5, p6, p7⟩ := K3b.out
    exact ⟨p1.trans (hb4.mono p1.size), p2.keep hb4, p3.keep hb4, p4.keep hb4, p5.keep hb4, p6.keep hb4, p7, hB3 ▸ hbm, hB3 ▸ p6.lt⟩
  rw [hB3]
  clear K3b hbm hb4 hB3 HCT
  have g12 := K4.out.2.1.c12
  have a0 := K4.out.2.2.2.1.c0
  have z0 := K4.out.2.2.1.c0
  have zf0 := K4.out.2.2.1.fr 0
  have a1 := K4.out.2.2.2.1.c1
  have z1 := K4.out.2.2.1.c1
  have zf1 := K4.out.2.2.1.fr 1
  have a2 := K4.out.2.2.2.1.c2
  have z2 := K4.out.2.2.1.c2
  have zf2 := K4.out.2.2.1.fr 2
  have a3 := K4.out.2.2.2.1.c3
  have z3 := K4.out.2.2.1.c3
  have zf3 := K4.out.2.2.1.fr 3
  have a4 := K4.out.2.2.2.1.c4
  have z4 := K4.out.2.2.1.c4
  have zf4 := K4.out.2.2.1.fr 4
  have a5 := K4.out.2.2.2.1.c5
  have z5 := K4.out.2.2.1.c5
  have zf5 := K4.out.2.2.1.fr 5
  have a6 := K4.out.2.2.2.1.c6
  have z6 := K4.out.2.2.1.c6
  have zf6 := K4.out.2.2.1.fr 6
  have a7 := K4.out.2.2.2.1.c7
  have z7 := K4.out.2.2.1.c7
  have zf7 := K4.out.2.2.1.fr 7
  have a8 := K4.out.2.2.2.1.c8
  have z8 := K4.out.2.2.1.c8
  have zf8 := K4.out.2.2.1.fr 8
  have a9 := K4.out.2.2.2.1.c9
  have z9 := K4.out.2.2.1.c9
  have zf9 := K4.out.2.2.1.fr 9
  have a10 := K4.out.2.2.2.1.c10
  have z10 := K4.out.2.2.1.c10
  have zf10 := K4.out.2.2.1.fr 10
  have a11 := K4.out.2.2.2.1.c11
  have z11 := K4.out.2.2.1.c11
  have zf11 := K4.out.2.2.1.fr 11
  have a12 := K4.out.2.2.2.1.c12
  have z12 := K4.out.2.2.1.c12
  have zf12 := K4.out.2.2.1.fr 12
  have af11 := K4.out.2.2.2.1.fr 11
  have af12 := K4.out.2.2.2.1.fr 12
  go_wp2_with fail
  obtain ⟨p1, p2, p3, p4, p5, p6, p7, p8, p9⟩ := K4.out
  refine bodyPost_ret (v := .agg #[.string key, .int .i64 st, .slice (some ⟨w.heap.size + 3, 0, none⟩) hl hl, .slice (some ⟨B2, 0, none⟩) bn bn, .int .i64 t, .int .i64 g, .int .i64 l, .int .i64 s, .int .i64 e, .bool b1, .bool b2, .slice (some ⟨B3, 0, none⟩) tn tn, .int .i64 pins]) ?_ rfl ⟨⟨B2, B3, rfl, (((((((((((((((p5.off1 _ (by omega)).off1 _ (by omega)).off1 _ (by omega)).off1 _ (by omega)).off1 _ (by omega)).off1 _ (by omega)).off1 _ (by omega)).off1 _ (by omega)).off1 _ (by omega)).off1 _ (by omega)).off1 _ (by omega)).off1 _ (by omega)).off1 _ (by omega)).off1 _ (by omega)).off1 _ (by omega)), (((((((((((((((p6.off1 _ (by omega)).off1 _ (by omega)).off1 _ (by omega)).off1 _ (by omega)).off1 _ (by omega)).off1 _ (by omega)).off1 _ (by omega)).off1 _ (by omega)).off1 _ (by omega)).off1 _ (by omega)).off1 _ (by omega)).off1 _ (by omega)).off1 _ (by omega)).off1 _ (by omega)).off1 _ (by omega)), (((((((((((((((p8.off1 _ (by omega)).off1 _ (by omega)).off1 _ (by omega)).off1 _ (by omega)).off1 _ (by omega)).off1 _ (by omega)).off1 _ (by omega)).off1 _ (by omega)).off1 _ (by omega)).off1 _ (by omega)).off1 _ (by omega)).off1 _ (by omega)).off1 _ (by omega)).off1 _ (by omega)).off1 _ (by omega)), p7, p9⟩, (((((((((((((((p1.setCell (by first | (simp; done) | (simp; omega)) _).setCell (by first | (simp; done) | (simp; omega)) _).setCell (by first | (simp; done) | (simp; omega)) _).setCell (by first | (simp; done) | (simp; omega)) _).setCell (by first | (simp; done) | (simp; omega)) _).setCell (by first | (simp; done) | (simp; omega)) _).setCell (by first | (simp; done) | (simp; omega)) _).setCell (by first | (simp; done) | (simp; omega)) _).setCell (by first | (simp; done) | (simp; omega)) _).setCell (by first | (simp; done) | (simp; omega)) _).setCell (by first | (simp; done) | (simp; omega)) _).setCell (by first | (simp; done) | (simp; omega)) _).setCell (by first | (simp; done) | (simp; omega)) _).setCell (by first | (simp; done) | (simp; omega)) _).setCell (by first | (simp; done) | (simp; omega)) _)⟩
  simp [results, Tryz.results12, go_sem, z0, z1, z2, z3, z4, z5, z6, z7, z8, z9, z10, z11, z12]
end Go.Proofs.YtolkgnnjocmkdaaGreatDoor
/-
  Lists of entries, handed over by the laws: room, copies, comparisons.
-/
namespace Go.Proofs.YtolkgnnjocmkdaaGreatDoor
open Go.ChangeShapes Go.WideShapes Go.ChangeAt Go.RowKit Go.Sort
theorem EntsAt.cells {w : World} {b off : Nat} {l : List (Ent × EntR)} (h : EntsAt w b off l) {i : Nat} {q : Ent × EntR} (hq : l[i]? = some q) : w.cell? ⟨b, off + i * 13, none⟩ = some (.string q.1.key) ∧ w.cell? ⟨b, off + i * 13 + 1, none⟩ = some (.int .i64 q.1.st) ∧ w.cell? ⟨b, off + i * 13 + 2, none⟩ = some (.slice q.2.ha q.1.hs.length q.2.hc) ∧ w.cell? ⟨b, off + i * 13 + 3, none⟩ = some (.slice q.2.ba q.1.bl.length q.2.bc) ∧ w.cell? ⟨b, off + i * 13 + 4, none⟩ = some (.int .i64 q.1.t) ∧ w.cell? ⟨b, off + i * 13 + 5, none⟩ = some (.int .i64 q.1.g) ∧ w.cell? ⟨b, off + i * 13 + 6, none⟩ = some (.int .i64 q.1.l) ∧ w.cell? ⟨b, off + i * 13 + 7, none⟩ = some (.int .i64 q.1.s) ∧ w.cell? ⟨b, off + i * 13 + 8, none⟩ = some (.int .i64 q.1.e) ∧ w.cell? ⟨b, off + i * 13 + 9, none⟩ = some (.bool q.1.b1) ∧ w.cell? ⟨b, off + i * 13 + 10, none⟩ = some (.bool q.1.b2) ∧ w.cell? ⟨b, off + i * 13 + 11, none⟩ = some (.slice q.2.ta q.1.ts.length q.2.tc) ∧ w.cell? ⟨b, off + i * 13 + 12, none⟩ = some (.int .i64 q.1.pins) := by
  have c := (h i q hq).1
  exact ⟨c 0 (by omega), c 1 (by omega), c 2 (by omega), c 3 (by omega), c 4 (by omega), c 5 (by omega), c 6 (by omega), c 7 (by omega), c 8 (by omega), c 9 (by omega), c 10 (by omega), c 11 (by omega), c 12 (by omega)⟩
theorem EntsAt.in {w : World} {b off : Nat} {l : List (Ent × EntR)} (h : EntsAt w b off l) {i : Nat} {q : Ent × EntR} (hq : l[i]? = some q) : EntIn w q.1 q.2 := (h i q hq).2
theorem szEntry_q (w : World) (q : Ent × EntR) (left : Int) (h0 : 0 ≤ left) (h1 : left ≤ 1048576) (hs : EntSm q.1) (hi : EntIn w q.1 q.2) :
    Calls Tryz.prog 9 #[.agg #[.string q.1.key, .int .i64 q.1.st, .slice q.2.ha q.1.hs.length q.2.hc, .slice q.2.ba q.1.bl.length q.2.bc, .int .i64 q.1.t, .int .i64 q.1.g, .int .i64 q.1.l, .int .i64 q.1.s, .int .i64 q.1.e, .bool q.1.b1, .bool q.1.b2, .slice q.2.ta q.1.ts.length q.2.tc, .int .i64 q.1.pins], .int .i64 left] w fun r w' => r = .returned (.int .i64 (szE left q.1.key q.1.hs q.1.bl q.1.ts)) ∧ Below w.heap.size w w' :=
  szEntry_any w _ _ _ _ _ _ _ _ _ _ _ _ _ _ _ _ _ _ _ left h0 h1 hs.key hs.hl hs.hs hs.bl hs.tl hs.ts hi.h hi.k
def szEs (c : Int) : List (Ent × EntR) → Int
  | [] => c
  | q :: l => if szE c q.1.key q.1.hs q.1.bl q.1.ts < 0 then -1 else szEs (szE c q.1.key q.1.hs q.1.bl q.1.ts) l
def szEL (left : Int) (l : List (Ent × EntR)) : Int := if left - (l.length : Int) < 0 then -1 else szEs (left - (l.length : Int)) l
end Go.Proofs.YtolkgnnjocmkdaaGreatDoor
/-
  Lists of entries, copied by the laws.
-/
namespace Go.Proofs.YtolkgnnjocmkdaaGreatDoor
open Go.ChangeShapes Go.WideShapes Go.ChangeAt Go.RowKit Go.Sort
def blk : Option Addr → Nat
  | some a => a.block
  | none => 0
def mkR (x : Ent) (B1 B2 B3 : Nat) : EntR := ⟨some ⟨B1, 0, none⟩, x.hs.length, some ⟨B2, 0, none⟩, x.bl.length, some ⟨B3, 0, none⟩, x.ts.length⟩
/-- An entry whose lists are its own. -/
def EntOwn (W : World) (x : Ent) (r : EntR) : Prop := ∃ B1 B2 B3, r = mkR x B1 B2 B3 ∧ QMine W B1 x.hs ∧ BMine W B2 x.bl ∧ TMine W B3 x.ts ∧ B1 < B2 ∧ B2 < B3
theorem EntOwn.keep {W W' : World} {x : Ent} {r : EntR} (h : EntOwn W x r) (hb : Below W.heap.size W W') : EntOwn W' x r := by
  obtain ⟨B1, B2, B3, e, h1, h2, h3, h4⟩ := h
  exact ⟨B1, B2, B3, e, h1.keep hb, h2.keep hb, h3.keep hb, h4⟩
theorem EntOwn.in {W : World} {x : Ent} {r : EntR} (h : EntOwn W x r) : EntIn W x r := by
  obtain ⟨B1, B2, B3, rfl, h1, h2, h3, h4⟩ := h
  exact ⟨.inr ⟨_, _, rfl, h1.at0⟩, h2.in, h3.in, Nat.le_refl _, Nat.le_refl _, Nat.le_refl _⟩
theorem EntOwn.lt {W : World} {x : Ent} {r : EntR} (h : EntOwn W x r) : blk r.ta < W.heap.size := by
  obtain ⟨B1, B2, B3, rfl, h1, h2, h3, h4⟩ := h
  exact h3.lt
theorem EntOwn.off1 {W : World} {x : Ent} {r : EntR} (h : EntOwn W x r) {b i : Nat} (v : Value) (hne : b < blk r.ha) : EntOwn (W.setCell ⟨b, i, none⟩ v) x r := by
  obtain ⟨B1, B2, B3, rfl, h1, h2, h3, h4, h5⟩ := h
  have q : b < B1 := hne
  exact ⟨B1, B2, B3, rfl, h1.off1 v (by omega), h2.off1 v (by omega), h3.off1 v (by omega), h4, h5⟩
/-- A list of entries that is its holder's own. -/
structure EntsMine (W : World) (G : Nat) (l : List (Ent × EntR)) : Prop where
  cell : ∀ (i : Nat) q, l[i]? = some q → ∀ j, j < 13 → W.cell? ⟨G, i * 13 + j, none⟩ = (entW q.1 q.2)[j]?
  free : ∀ o, W.frozen? ⟨G, o, none⟩ = false
  lt : G < W.heap.size
  own : ∀ q ∈ l, EntOwn W q.1 q.2
  up : ∀ q ∈ l, G < blk q.2.ha
  pw : l.Pairwise (fun q q' => blk q.2.ta < blk q'.2.ha)
theorem EntsMine.keep {W W' : World} {G : Nat} {l : List (Ent × EntR)} (h : EntsMine W G l) (hb : Below W.heap.size W W') : EntsMine W' G l :=
  ⟨fun i q hq j hj => by rw [hb.cell (p := ⟨G, i * 13 + j, none⟩) h.lt]; exact h.cell i q hq j hj, fun o => by rw [hb.frozen (p := ⟨G, o, none⟩) h.lt]; exact h.free o, Nat.lt_of_lt_of_le h.lt hb.size, fun q hq => (h.own q hq).keep hb, h.up, h.pw⟩
theorem EntsMine.at0 {W : World} {G : Nat} {l : List (Ent × EntR)} (h : EntsMine W G l) : EntsAt W G 0 l := fun i q hq => ⟨fun j hj => by rw [Nat.zero_add]; exact h.cell i q hq j hj, (h.own q (List.mem_of_getElem? hq)).in⟩
theorem EntsMine.in {W : World} {G : Nat} {l : List (Ent × EntR)} (h : EntsMine W G l) : EntsIn W (some ⟨G, 0, none⟩) l := .inr ⟨G, 0, rfl, h.at0⟩
def put13 (X : World) (G k : Nat) (x0 x1 x2 x3 x4 x5 x6 x7 x8 x9 x10 x11 x12 : Value) : World := (((((((((((((X.setCell ⟨G, k * 13, none⟩ x0).setCell ⟨G, k * 13 + 1, none⟩ x1).setCell ⟨G, k * 13 + 2, none⟩ x2).setCell ⟨G, k * 13 + 3, none⟩ x3).setCell ⟨G, k * 13 + 4, none⟩ x4).setCell ⟨G, k * 13 + 5, none⟩ x5).setCell ⟨G, k * 13 + 6, none⟩ x6).setCell ⟨G, k * 13 + 7, none⟩ x7).setCell ⟨G, k * 13 + 8, none⟩ x8).setCell ⟨G, k * 13 + 9, none⟩ x9).setCell ⟨G, k * 13 + 10, none⟩ x10).setCell ⟨G, k * 13 + 11, none⟩ x11).setCell ⟨G, k * 13 + 12, none⟩ x12)
theorem put13_other (X : World) (G k : Nat) (x0 x1 x2 x3 x4 x5 x6 x7 x8 x9 x10 x11 x12 : Value) (i : Nat) (hi : i < k * 13 ∨ k * 13 + 13 ≤ i) : (put13 X G k x0 x1 x2 x3 x4 x5 x6 x7 x8 x9 x10 x11 x12).cell? ⟨G, i, none⟩ = X.cell? ⟨G, i, none⟩ := by
  unfold put13
  rw [World.cell?_setCell_other _ _ _ _ (hoff_ne (by omega)), World.cell?_setCell_other _ _ _ _ (hoff_ne (by omega)), World.cell?_setCell_other _ _ _ _ (hoff_ne (by omega)), World.cell?_setCell_other _ _ _ _ (hoff_ne (by omega)), World.cell?_setCell_other _ _ _ _ (hoff_ne (by omega)), World.cell?_setCell_other _ _ _ _ (hoff_ne (by omega)), World.cell?_setCell_other _ _ _ _ (hoff_ne (by omega)), World.cell?_setCell_other _ _ _ _ (hoff_ne (by omega)), World.cell?_setCell_other _ _ _ _ (hoff_ne (by omega)), World.cell?_setCell_other _ _ _ _ (hoff_ne (by omega)), World.cell?_setCell_other _ _ _ _ (hoff_ne (by omega)), World.cell?_setCell_other _ _ _ _ (hoff_ne (by omega)), World.cell?_setCell_other _ _ _ _ (hoff_ne (by omega))]
theorem put13_room {X : World} {G n : Nat} (k : Nat) (x0 x1 x2 x3 x4 x5 x6 x7 x8 x9 x10 x11 x12 : Value) (h : HRoom X G n) : HRoom (put13 X G k x0 x1 x2 x3 x4 x5 x6 x7 x8 x9 x10 x11 x12) G n := (((((((((((((h.set _ _).set _ _).set _ _).set _ _).set _ _).set _ _).set _ _).set _ _).set _ _).set _ _).set _ _).set _ _).set _ _)
theorem put13_free (X : World) (G k : Nat) (x0 x1 x2 x3 x4 x5 x6 x7 x8 x9 x10 x11 x12 : Value) (p : Addr) : (put13 X G k x0 x1 x2 x3 x4 x5 x6 x7 x8 x9 x10 x11 x12).frozen? p = X.frozen? p := by
  unfold put13
  rw [World.frozen?_setCell, World.frozen?_setCell, World.frozen?_setCell, World.frozen?_setCell, World.frozen?_setCell, World.frozen?_setCell, World.frozen?_setCell, World.frozen?_setCell, World.frozen?_setCell, World.frozen?_setCell, World.frozen?_setCell, World.frozen?_setCell, World.frozen?_setCell]
theorem put13_size (X : World) (G k : Nat) (x0 x1 x2 x3 x4 x5 x6 x7 x8 x9 x10 x11 x12 : Value) : (put13 X G k x0 x1 x2 x3 x4 x5 x6 x7 x8 x9 x10 x11 x12).heap.size = X.heap.size := by
  unfold put13
  simp
theorem put13_below {w X : World} {n G : Nat} (k : Nat) (x0 x1 x2 x3 x4 x5 x6 x7 x8 x9 x10 x11 x12 : Value) (h : Below n w X) (hn : n ≤ G) : Below n w (put13 X G k x0 x1 x2 x3 x4 x5 x6 x7 x8 x9 x10 x11 x12) := (((((((((((((h.setCell hn _).setCell hn _).setCell hn _).setCell hn _).setCell hn _).setCell hn _).setCell hn _).setCell hn _).setCell hn _).setCell hn _).setCell hn _).setCell hn _).setCell hn _)
theorem put13_cells {X : World} {G n : Nat} (k : Nat) (x0 x1 x2 x3 x4 x5 x6 x7 x8 x9 x10 x11 x12 : Value) (h : HRoom X G n) (hk : k * 13 + 13 ≤ n) : (put13 X G k x0 x1 x2 x3 x4 x5 x6 x7 x8 x9 x10 x11 x12).cell? ⟨G, k * 13, none⟩ = some x0 ∧ (put13 X G k x0 x1 x2 x3 x4 x5 x6 x7 x8 x9 x10 x11 x12).cell? ⟨G, k * 13 + 1, none⟩ = some x1 ∧ (put13 X G k x0 x1 x2 x3 x4 x5 x6 x7 x8 x9 x10 x11 x12).cell? ⟨G, k * 13 + 2, none⟩ = some x2 ∧ (put13 X G k x0 x1 x2 x3 x4 x5 x6 x7 x8 x9 x10 x11 x12).cell? ⟨G, k * 13 + 3, none⟩ = some x3 ∧ (put13 X G k x0 x1 x2 x3 x4 x5 x6 x7 x8 x9 x10 x11 x12).cell? ⟨G, k * 13 + 4, none⟩ = some x4 ∧ (put13 X G k x0 x1 x2 x3 x4 x5 x6 x7 x8 x9 x10 x11 x12).cell? ⟨G, k * 13 + 5, none⟩ = some x5 ∧ (put13 X G k x0 x1 x2 x3 x4 x5 x6 x7 x8 x9 x10 x11 x12).cell? ⟨G, k * 13 + 6, none⟩ = some x6 ∧ (put13 X G k x0 x1 x2 x3 x4 x5 x6 x7 x8 x9 x10 x11 x12).cell? ⟨G, k * 13 + 7, none⟩ = some x7 ∧ (put13 X G k x0 x1 x2 x3 x4 x5 x6 x7 x8 x9 x10 x11 x12).cell? ⟨G, k * 13 + 8, none⟩ = some x8 ∧ (put13 X G k x0 x1 x2 x3 x4 x5 x6 x7 x8 x9 x10 x11 x12).cell? ⟨G, k * 13 + 9, none⟩ = some x9 ∧ (put13 X G k x0 x1 x2 x3 x4 x5 x6 x7 x8 x9 x10 x11 x12).cell? ⟨G, k * 13 + 10, none⟩ = some x10 ∧ (put13 X G k x0 x1 x2 x3 x4 x5 x6 x7 x8 x9 x10 x11 x12).cell? ⟨G, k * 13 + 11, none⟩ = some x11 ∧ (put13 X G k x0 x1 x2 x3 x4 x5 x6 x7 x8 x9 x10 x11 x12).cell? ⟨G, k * 13 + 12, none⟩ = some x12 := by
  refine ⟨?_, ?_, ?_, ?_, ?_, ?_, ?_, ?_, ?_, ?_, ?_, ?_, ?_⟩
  · obtain ⟨⟨u, g⟩, _⟩ := h (k * 13) (by omega)
    unfold put13
    rw [World.cell?_setCell_other _ _ _ _ (hoff_ne (by omega)), World.cell?_setCell_other _ _ _ _ (hoff_ne (by omega)), World.cell?_setCell_other _ _ _ _ (hoff_ne (by omega)), World.cell?_setCell_other _ _ _ _ (hoff_ne (by omega)), World.cell?_setCell_other _ _ _ _ (hoff_ne (by omega)), World.cell?_setCell_other _ _ _ _ (hoff_ne (by omega)), World.cell?_setCell_other _ _ _ _ (hoff_ne (by omega)), World.cell?_setCell_other _ _ _ _ (hoff_ne (by omega)), World.cell?_setCell_other _ _ _ _ (hoff_ne (by omega)), World.cell?_setCell_other _ _ _ _ (hoff_ne (by omega)), World.cell?_setCell_other _ _ _ _ (hoff_ne (by omega)), World.cell?_setCell_other _ _ _ _ (hoff_ne (by omega))]
    exact World.cell?_setCell_same _ _ _ g
  · obtain ⟨⟨u, g⟩, _⟩ := (h.set ⟨G, k * 13, none⟩ x0) (k * 13 + 1) (by omega)
    unfold put13
    rw [World.cell?_setCell_other _ _ _ _ (hoff_ne (by omega)), World.cell?_setCell_other _ _ _ _ (hoff_ne (by omega)), World.cell?_setCell_other _ _ _ _ (hoff_ne (by omega)), World.cell?_setCell_other _ _ _ _ (hoff_ne (by omega)), World.cell?_setCell_other _ _ _ _ (hoff_ne (by omega)), World.cell?_setCell_other _ _ _ _ (hoff_ne (by omega)), World.cell?_setCell_other _ _ _ _ (hoff_ne (by omega)), World.cell?_setCell_other _ _ _ _ (hoff_ne (by omega)), World.cell?_setCell_other _ _ _ _ (hoff_ne (by omega)), World.cell?_setCell_other _ _ _ _ (hoff_ne (by omega)), World.cell?_setCell_other _ _ _ _ (hoff_ne (by omega))]
    exact World.cell?_setCell_same _ _ _ g
  · obtain ⟨⟨u, g⟩, _⟩ := ((h.set ⟨G, k * 13, none⟩ x0).set ⟨G, k * 13 + 1, none⟩ x1) (k * 13 + 2) (by omega)
    unfold put13
    rw [World.cell?_setCell_other _ _ _ _ (hoff_ne (by omega)), World.cell?_setCell_other _ _ _ _ (hoff_ne (by omega)), World.cell?_setCell_other _ _ _ _ (hoff_ne (by omega)), World.cell?_setCell_other _ _ _ _ (hoff_ne (by omega)), World.cell?_setCell_other _ _ _ _ (hoff_ne (by omega)), World.cell?_setCell_other _ _ _ _ (hoff_ne (by omega)), World.cell?_setCell_other _ _ _ _ (hoff_ne (by omega)), World.cell?_setCell_other _ _ _ _ (hoff_ne (by omega)), World.cell?_setCell_other _ _ _ _ (hoff_ne (by omega)), World.cell?_setCell_other _ _ _ _ (hoff_ne (by omega))]
    exact World.cell?_setCell_same _ _ _ g
  · obtain ⟨⟨u, g⟩, _⟩ := (((h.set ⟨G, k * 13, none⟩ x0).set ⟨G, k * 13 + 1, none⟩ x1).set ⟨G, k * 13 + 2, none⟩ x2) (k * 13 + 3) (by omega)
    unfold put13
    rw [World.cell?_setCell_other _ _ _ _ (hoff_ne (by omega)), World.cell?_setCell_other _ _ _ _ (hoff_ne (by omega)), World.cell?_setCell_other _ _ _ _ (hoff_ne (by omega)), World.cell?_setCell_other _ _ _ _ (hoff_ne (by omega)), World.cell?_setCell_other _ _ _ _ (hoff_ne (by omega)), World.cell?_setCell_other _ _ _ _ (hoff_ne (by omega)), World.cell?_setCell_other _ _ _ _ (hoff_ne (by omega)), World.cell?_setCell_other _ _ _ _ (hoff_ne (by omega)), World.cell?_setCell_other _ _ _ _ (hoff_ne (by omega))]
    exact World.cell?_setCell_same _ _ _ g
  · obtain ⟨⟨u, g⟩, _⟩ := ((((h.set ⟨G, k * 13, none⟩ x0).set ⟨G, k * 13 + 1, none⟩ x1).set ⟨G, k * 13 + 2, none⟩ x2).set ⟨G, k * 13 + 3, none⟩ x3) (k * 13 + 4) (by omega)
    unfold put13
    rw [World.cell?_setCell_other _ _ _ _ (hoff_ne (by omega)), World.cell?_setCell_other _ _ _ _ (hoff_ne (by omega)), World.cell?_setCell_other _ _ _ _ (hoff_ne (by omega)), World.cell?_setCell_other _ _ _ _ (hoff_ne (by omega)), World.cell?_setCell_other _ _ _ _ (hoff_ne (by omega)), World.cell?_setCell_other _ _ _ _ (hoff_ne (by omega)), World.cell?_setCell_other _ _ _ _ (hoff_ne (by omega)), World.cell?_setCell_other _ _ _ _ (hoff_ne (by omega))]
    exact World.cell?_setCell_same _ _ _ g
  · obtain ⟨⟨u, g⟩, _⟩ := (((((h.set ⟨G, k * 13, none⟩ x0).set ⟨G, k * 13 + 1, none⟩ x1).set ⟨G, k * 13 + 2, none⟩ x2).set ⟨G, k * 13 + 3, none⟩ x3).set ⟨G, k * 13 + 4, none⟩ x4) (k * 13 + 5) (by omega)
    unfold put13
    rw [World.cell?_setCell_other _ _ _ _ (hoff_ne (by omega)), World.cell?_setCell_other _ _ _ _ (hoff_ne (by omega)), World.cell?_setCell_other _ _ _ _ (hoff_ne (by omega)), World.cell?_setCell_other _ _ _ _ (hoff_ne (by omega)), World.cell?_setCell_other _ _ _ _ (hoff_ne (by omega)), World.cell?_setCell_other _ _ _ _ (hoff_ne (by omega)), World.cell?_setCell_other _ _ _ _ (hoff_ne (by omega))]
    exact World.cell?_setCell_same _ _ _ g
  · obtain ⟨⟨u, g⟩, _⟩ := ((((((h.set ⟨G, k * 13, none⟩ x0).set ⟨G, k * 13 + 1, none⟩ x1).set ⟨G, k * 13 + 2, none⟩ x2).set ⟨G, k * 13 + 3, none⟩ x3).set ⟨G, k * 13 + 4, none⟩ x4).set ⟨G, k * 13 + 5, none⟩ x5) (k * 13 + 6) (by omega)
    unfold put13
    rw [World.cell?_setCell_other _ _ _ _ (hoff_ne (by omega)), World.cell?_setCell_other _ _ _ _ (hoff_ne (by omega)), World.cell?_setCell_other _ _ _ _ (hoff_ne (by omega)), World.cell?_setCell_other _ _ _ _ (hoff_ne (by omega)), World.cell?_setCell_other _ _ _ _ (hoff_ne (by omega)), World.cell?_setCell_other _ _ _ _ (hoff_ne (by omega))]
    exact World.cell?_setCell_same _ _ _ g
  · obtain ⟨⟨u, g⟩, _⟩ := (((((((h.set ⟨G, k * 13, none⟩ x0).set ⟨G, k * 13 + 1, none⟩ x1).set ⟨G, k * 13 + 2, none⟩ x2).set ⟨G, k * 13 + 3, none⟩ x3).set ⟨G, k * 13 + 4, none⟩ x4).set ⟨G, k * 13 + 5, none⟩ x5).set ⟨G, k * 13 + 6, none⟩ x6) (k * 13 + 7) (by omega)
    unfold put13
    rw [World.cell?_setCell_other _ _ _ _ (hoff_ne (by omega)), World.cell?_setCell_other _ _ _ _ (hoff_ne (by omega)), World.cell?_setCell_other _ _ _ _ (hoff_ne (by omega)), World.cell?_setCell_other _ _ _ _ (hoff_ne (by omega)), World.cell?_setCell_other _ _ _ _ (hoff_ne (by omega))]
    exact World.cell?_setCell_same _ _ _ g
  · obtain ⟨⟨u, g⟩, _⟩ := ((((((((h.set ⟨G, k * 13, none⟩ x0).set ⟨G, k * 13 + 1, none⟩ x1).set ⟨G, k * 13 + 2, none⟩ x2).set ⟨G, k * 13 + 3, none⟩ x3).set ⟨G, k * 13 + 4, none⟩ x4).set ⟨G, k * 13 + 5, none⟩ x5).set ⟨G, k * 13 + 6, none⟩ x6).set ⟨G, k * 13 + 7, none⟩ x7) (k * 13 + 8) (by omega)
    unfold put13
    rw [World.cell?_setCell_other _ _ _ _ (hoff_ne (by omega)), World.cell?_setCell_other _ _ _ _ (hoff_ne (by omega)), World.cell?_setCell_other _ _ _ _ (hoff_ne (by omega)), World.cell?_setCell_other _ _ _ _ (hoff_ne (by omega))]
    exact World.cell?_setCell_same _ _ _ g
  · obtain ⟨⟨u, g⟩, _⟩ := (((((((((h.set ⟨G, k * 13, none⟩ x0).set ⟨G, k * 13 + 1, none⟩ x1).set ⟨G, k * 13 + 2, none⟩ x2).set ⟨G, k * 13 + 3, none⟩ x3).set ⟨G, k * 13 + 4, none⟩ x4).set ⟨G, k * 13 + 5, none⟩ x5).set ⟨G, k * 13 + 6, none⟩ x6).set ⟨G, k * 13 + 7, none⟩ x7).set ⟨G, k * 13 + 8, none⟩ x8) (k * 13 + 9) (by omega)
    unfold put13
    rw [World.cell?_setCell_other _ _ _ _ (hoff_ne (by omega)), World.cell?_setCell_other _ _ _ _ (hoff_ne (by omega)), World.cell?_setCell_other _ _ _ _ (hoff_ne (by omega))]
    exact World.cell?_setCell_same _ _ _ g
  · obtain ⟨⟨u, g⟩, _⟩ := ((((((((((h.set ⟨G, k * 13, none⟩ x0).set ⟨G, k * 13 + 1, none⟩ x1).set ⟨G, k * 13 + 2, none⟩ x2).set ⟨G, k * 13 + 3, none⟩ x3).set ⟨G, k * 13 + 4, none⟩ x4).set ⟨G, k * 13 + 5, none⟩ x5).set ⟨G, k * 13 + 6, none⟩ x6).set ⟨G, k * 13 + 7, none⟩ x7).set ⟨G, k * 13 + 8, none⟩ x8).set ⟨G, k * 13 + 9, none⟩ x9) (k * 13 + 10) (by omega)
    unfold put13
    rw [World.cell?_setCell_other _ _ _ _ (hoff_ne (by omega)), World.cell?_setCell_other _ _ _ _ (hoff_ne (by omega))]
    exact World.cell?_setCell_same _ _ _ g
  · obtain ⟨⟨u, g⟩, _⟩ := (((((((((((h.set ⟨G, k * 13, none⟩ x0).set ⟨G, k * 13 + 1, none⟩ x1).set ⟨G, k * 13 + 2, none⟩ x2).set ⟨G, k * 13 + 3, none⟩ x3).set ⟨G, k * 13 + 4, none⟩ x4).set ⟨G, k * 13 + 5, none⟩ x5).set ⟨G, k * 13 + 6, none⟩ x6).set ⟨G, k * 13 + 7, none⟩ x7).set ⟨G, k * 13 + 8, none⟩ x8).set ⟨G, k * 13 + 9, none⟩ x9).set ⟨G, k * 13 + 10, none⟩ x10) (k * 13 + 11) (by omega)
    unfold put13
    rw [World.cell?_setCell_other _ _ _ _ (hoff_ne (by omega))]
    exact World.cell?_setCell_same _ _ _ g
  · obtain ⟨⟨u, g⟩, _⟩ := ((((((((((((h.set ⟨G, k * 13, none⟩ x0).set ⟨G, k * 13 + 1, none⟩ x1).set ⟨G, k * 13 + 2, none⟩ x2).set ⟨G, k * 13 + 3, none⟩ x3).set ⟨G, k * 13 + 4, none⟩ x4).set ⟨G, k * 13 + 5, none⟩ x5).set ⟨G, k * 13 + 6, none⟩ x6).set ⟨G, k * 13 + 7, none⟩ x7).set ⟨G, k * 13 + 8, none⟩ x8).set ⟨G, k * 13 + 9, none⟩ x9).set ⟨G, k * 13 + 10, none⟩ x10).set ⟨G, k * 13 + 11, none⟩ x11) (k * 13 + 12) (by omega)
    unfold put13
    exact World.cell?_setCell_same _ _ _ g
def putE (X : World) (G k : Nat) (x : Ent) (r : EntR) : World := put13 X G k (.string x.key) (.int .i64 x.st) (.slice r.ha x.hs.length r.hc) (.slice r.ba x.bl.length r.bc) (.int .i64 x.t) (.int .i64 x.g) (.int .i64 x.l) (.int .i64 x.s) (.int .i64 x.e) (.bool x.b1) (.bool x.b2) (.slice r.ta x.ts.length r.tc) (.int .i64 x.pins)
theorem putE_own {X : World} {G k : Nat} {y : Ent} {s : EntR} (x : Ent) (r : EntR) (hk : EntOwn X y s) (h : G < blk s.ha) : EntOwn (putE X G k x r) y s := (((((((((((((hk.off1 _ h).off1 _ h).off1 _ h).off1 _ h).off1 _ h).off1 _ h).off1 _ h).off1 _ h).off1 _ h).off1 _ h).off1 _ h).off1 _ h).off1 _ h)
theorem EntsMine.put {W : World} {G n : Nat} {l : List (Ent × EntR)} (h : EntsMine W G l) (x : Ent) (r : EntR) (hm : HRoom W G n) (hn : l.length * 13 + 13 ≤ n) (ho : EntOwn W x r) (hu : G < blk r.ha) (hp : ∀ q ∈ l, blk q.2.ta < blk r.ha) : EntsMine (putE W G l.length x r) G (l ++ [(x, r)]) := by
  refine ⟨?_, fun o => ?_, ?_, ?_, ?_, ?_⟩
  · intro i q hq j hj
    have hi : i < l.length + 1 := by have := (List.getElem?_eq_some_iff.1 hq).1; simpa using this
    by_cases e : i = l.length
    · subst e
      rw [List.getElem?_append_right (Nat.le_refl _), Nat.sub_self] at hq
      obtain rfl := Option.some.inj hq
      have c := put13_cells l.length (.string x.key) (.int .i64 x.st) (.slice r.ha x.hs.length r.hc) (.slice r.ba x.bl.length r.bc) (.int .i64 x.t) (.int .i64 x.g) (.int .i64 x.l) (.int .i64 x.s) (.int .i64 x.e) (.bool x.b1) (.bool x.b2) (.slice r.ta x.ts.length r.tc) (.int .i64 x.pins) hm hn
      match j, hj with
      | 0, _ => exact c.1
      | 1, _ => exact c.2.1
      | 2, _ => exact c.2.2.1
      | 3, _ => exact c.2.2.2.1
      | 4, _ => exact c.2.2.2.2.1
      | 5, _ => exact c.2.2.2.2.2.1
      | 6, _ => exact c.2.2.2.2.2.2.1
      | 7, _ => exact c.2.2.2.2.2.2.2.1
      | 8, _ => exact c.2.2.2.2.2.2.2.2.1
      | 9, _ => exact c.2.2.2.2.2.2.2.2.2.1
      | 10, _ => exact c.2.2.2.2.2.2.2.2.2.2.1
      | 11, _ => exact c.2.2.2.2.2.2.2.2.2.2.2.1
      | 12, _ => exact c.2.2.2.2.2.2.2.2.2.2.2.2
    · rw [List.getElem?_append_left (by omega)] at hq
      have c := h.cell i q hq j hj
      unfold putE
      rw [put13_other _ _ _ _ _ _ _ _ _ _ _ _ _ _ _ _ _ (by omega)]
      exact c
  · unfold putE; rw [put13_free]; exact h.free o
  · unfold putE; rw [put13_size]; exact h.lt
  · intro q hq
    rcases List.mem_append.1 hq with hq | hq
    · exact putE_own _ _ (h.own q hq) (h.up q hq)
    · obtain rfl := List.mem_singleton.1 hq
      exact putE_own _ _ ho hu
  · intro q hq
    rcases List.mem_append.1 hq with hq | hq
    · exact h.up q hq
    · obtain rfl := List.mem_singleton.1 hq
      exact hu
  · refine List.pairwise_append.2 ⟨h.pw, List.pairwise_singleton _ _, fun q hq q' hq' => ?_⟩
    obtain rfl := List.mem_singleton.1 hq'
    exact hp q hq
theorem toEntry_q (w : World) (q : Ent × EntR) (h1 : q.1.hs.length ≤ 1048576) (h2 : q.1.bl.length ≤ 1048576) (h3 : q.1.ts.length ≤ 1048576) (hi : EntIn w q.1 q.2) :
    Calls Tryz.prog 12 #[.agg #[.string q.1.key, .int .i64 q.1.st, .slice q.2.ha q.1.hs.length q.2.hc, .slice q.2.ba q.1.bl.length q.2.bc, .int .i64 q.1.t, .int .i64 q.1.g, .int .i64 q.1.l, .int .i64 q.1.s, .int .i64 q.1.e, .bool q.1.b1, .bool q.1.b2, .slice q.2.ta q.1.ts.length q.2.tc, .int .i64 q.1.pins]] w fun ee w' => (∃ r, ee = .returned (entV q.1 r) ∧ EntOwn w' q.1 r ∧ w.heap.size < blk r.ha) ∧ Below w.heap.size w w' := by
  refine (toEntry_any w _ _ _ _ _ _ _ _ _ _ _ _ _ _ _ _ _ _ _ h1 h2 h3 hi.h hi.b hi.k).mono ?_
  rintro ee w' ⟨⟨B2, B3, rfl, a, b, c, d, e⟩, hb⟩
  exact ⟨⟨mkR q.1 (w.heap.size + 3) B2 B3, rfl, ⟨_, B2, B3, rfl, a, b, c, d, e⟩, by show w.heap.size < w.heap.size + 3; omega⟩, hb⟩
theorem infoEntry : (Tryz.prog.info? 42).map (fun i => (i.zero, i.size, i.bytes)) = some (some (.agg #[.string ⟨#[]⟩, .int .i64 0, .slice none 0 0, .slice none 0 0, .int .i64 0, .int .i64 0, .int .i64 0, .int .i64 0, .int .i64 0, .bool false, .bool false, .slice none 0 0, .int .i64 0]), 13, 152) := by kernel_rfl
/-- What fits. -/
structure EntFit (x : Ent) : Prop where
  h : x.hs.length ≤ 1048576
  b : x.bl.length ≤ 1048576
  t : x.ts.length ≤ 1048576
end Go.Proofs.YtolkgnnjocmkdaaGreatDoor
/-
  Two lists of entries that are alike, compared by the laws.
-/
namespace Go.Proofs.YtolkgnnjocmkdaaGreatDoor
open Go.ChangeShapes Go.WideShapes Go.ChangeAt Go.RowKit Go.Sort
theorem eqEntry_q (w : World) (x : Ent) (r1 r2 : EntR) (hf : EntFit x) (h1 : EntIn w x r1) (h2 : EntIn w x r2) :
    Calls Tryz.prog 16 #[.agg #[.string x.key, .int .i64 x.st, .slice r1.ha x.hs.length r1.hc, .slice r1.ba x.bl.length r1.bc, .int .i64 x.t, .int .i64 x.g, .int .i64 x.l, .int .i64 x.s, .int .i64 x.e, .bool x.b1, .bool x.b2, .slice r1.ta x.ts.length r1.tc, .int .i64 x.pins], .agg #[.string x.key, .int .i64 x.st, .slice r2.ha x.hs.length r2.hc, .slice r2.ba x.bl.length r2.bc, .int .i64 x.t, .int .i64 x.g, .int .i64 x.l, .int .i64 x.s, .int .i64 x.e, .bool x.b1, .bool x.b2, .slice r2.ta x.ts.length r2.tc, .int .i64 x.pins]] w fun r w' => r = .returned (.bool true) ∧ Below w.heap.size w w' :=
  eqEntry_same w _ _ _ _ _ _ _ _ _ _ _ _ _ _ _ _ _ _ _ _ _ _ _ _ _ hf.h hf.b hf.t h1.h h2.h h1.b h2.b h1.k h2.k
end Go.Proofs.YtolkgnnjocmkdaaGreatDoor
/-
  Appending, for whatever element: what is appended may be nil.
-/
namespace Go.Proofs.YtolkgnnjocmkdaaGreatDoor
open Go.ChangeShapes Go.WideShapes Go.ChangeAt Go.RowKit Go.Sort
theorem row_ge {w : World} {base : Nat} {e : TypeId} {size : Nat} {v : Value} {n : Nat} {xs : List Value} (h : w.ownsRow base e size v n xs) (q : Nat) (hq : v.ownBlock = some q) : base ≤ q := (World.ownsRow.lt h q hq).1
theorem row_form {w : World} {base : Nat} {e : TypeId} {size : Nat} {v : Value} {n : Nat} {xs : List Value} (h : w.ownsRow base e size v n xs) : ∃ va vc, v = .slice va n vc ∧ n ≤ vc := by
  obtain ⟨_, h1 | ⟨g, c2, cur, e2, _, _, hc2, _⟩⟩ := h
  · obtain ⟨rfl, rfl⟩ := h1
    exact ⟨none, 0, rfl, Nat.le_refl _⟩
  · exact ⟨_, c2, e2, hc2⟩
theorem row_below {w w' : World} {base : Nat} {e : TypeId} {size : Nat} {v : Value} {n : Nat} {xs : List Value} (h : w.ownsRow base e size v n xs) (hb : Below w.heap.size w w') : w'.ownsRow base e size v n xs := by
  obtain ⟨h1, h2⟩ := h
  refine ⟨h1, ?_⟩
  rcases h2 with h2 | ⟨g, c, cur, e, hg, hh, hrest⟩
  · exact .inl h2
  · exact .inr ⟨g, c, cur, e, hg, by rw [hb.block g (Array.getElem?_eq_some_iff.1 hh).1]; exact hh, hrest⟩
theorem row_lower {w : World} {b0 base : Nat} {e : TypeId} {size : Nat} {v : Value} {n : Nat} {xs : List Value} (h : w.ownsRow base e size v n xs) (hb : b0 ≤ base) : w.ownsRow b0 e size v n xs := by
  obtain ⟨h1, h2⟩ := h
  refine ⟨h1, ?_⟩
  rcases h2 with h2 | ⟨g, c, cur, e, hg, hrest⟩
  · exact .inl h2
  · exact .inr ⟨g, c, cur, e, by omega, hrest⟩
theorem row_zero {P : Program} (w : World) (t ty e : TypeId) (i : TypeInfo) (ht : P.underlying t = some (.slice e)) (hi : P.info? e = some i) (base : Option Addr) (n k : Nat) (hle : n ≤ k) (pb : Option Addr) (c : Nat) :
    (Builtin.append_ #[t, t] ty #[.slice base n k, .slice pb 0 c]).run P w = .ok (.slice base n k) w := by
  cases base <;> cases pb <;> simp [Builtin.append_, run_underlying ht, sizeOf, typeInfo, hi, Builtin.lenOf, Builtin.firstCells, hle, storeCells, loadCells, loadCellsFrom]
section
variable {P : Program}
theorem wp_append_in {o : Oper} {a : Act} {K : Act → World → Prop} {Q : Exit → Act → World → Prop} (w : World) (s x : Operand) (t e : TypeId)
    (ho : o.op = .call { callee := .builtin .append, args := #[s, x], argTypes := #[t, t] })
    (i : TypeInfo) (z : Value) (size bytes : Nat) (ht : P.underlying t = some (.slice e)) (hi : P.info? e = some i) (hz : i.zero = some z) (hsize : i.size = size) (hby : i.bytes = bytes) (hzs : z.cells.size = size) (hsz : 0 < size)
    (base : Nat) (v : Value) (n : Nat) (xs : List Value) (hs : a.eval s = v) (hown : w.ownsRow base e size v n xs)
    (pa : Option Addr) (cap m : Nat) (news : List Value) (hx : a.eval x = .slice pa m cap) (hl : news.length = m * size) (hnews : m = 0 ∨ ∃ ad, pa = some ad ∧ ∀ j u, news[j]? = some u → w.cell? (ad.add j) = some u) (h1 : ∀ u ∈ news, u.oneCell' = true)
    (h63 : n + m ≤ maxLen) (hbytes : (n + m) * bytes ≤ 140737488355328) (hbase : base ≤ w.heap.size)
    (h : ∀ v' w', w'.ownsRow base e size v' (n + m) (xs ++ news) → Below base w w' → (∀ b o, b < w.heap.size → v.ownBlock ≠ some b → w'.cell? ⟨b, o, none⟩ = w.cell? ⟨b, o, none⟩ ∧ w'.frozen? ⟨b, o, none⟩ = w.frozen? ⟨b, o, none⟩) → K (a.put o.dst v') w') :
    Oper.wp P o a w K Q := by
  by_cases h0 : m = 0
  · subst h0
    obtain ⟨va, vc, rfl, hle⟩ := row_form hown
    have en : news = [] := List.eq_nil_of_length_eq_zero (by rw [hl, Nat.zero_mul])
    subst en
    unfold Oper.wp execOp
    simp only [ho, resolve, invoke, builtin, Sem.run_bind, Sem.run_pure, Result.andThen_ok, List.map_toArray, List.map_cons, List.map_nil, hs, hx]
    rw [row_zero w t _ e i ht hi va n vc hle pa cap]
    exact h _ w (by simpa using hown) (Below.refl _ _) (fun _ _ _ _ => ⟨rfl, rfl⟩)
  · rcases hnews with hnews | ⟨ad, rfl, hnews⟩
    · exact absurd hnews h0
    · refine wp_append_lies w s x t ho base e i z size bytes ht hi hz hsize hby hzs hsz v n xs hs hown ad m cap news hx hl hnews h1 (by omega) h63 hbytes hbase _ rfl ?_
      intro g c w' h1 h2 h3 h4
      exact h _ w' h1 ((Below.refl base w).grown h2 hbase (fun q hq => row_ge hown q hq)) (fun b o hb hne => ⟨h2.cell_far ⟨b, o, none⟩ hb hne.symm, h2.frozen_far ⟨b, o, none⟩ hb hne.symm⟩)
theorem step_append_in {ops : Array Oper} {o : Oper} {a : Act} {K : Act → World → Prop} {Q : Exit → Act → World → Prop} {E : Prop} (w : World) (hgd : o.guard = none) (s x : Operand) (t e : TypeId)
    (ho : o.op = .call { callee := .builtin .append, args := #[s, x], argTypes := #[t, t] })
    (i : TypeInfo) (z : Value) (size bytes : Nat) (ht : P.underlying t = some (.slice e)) (hi : P.info? e = some i) (hz : i.zero = some z) (hsize : i.size = size) (hby : i.bytes = bytes) (hzs : z.cells.size = size) (hsz : 0 < size)
    (base : Nat) (v : Value) (n : Nat) (xs : List Value) (hs : a.eval s = v) (hown : w.ownsRow base e size v n xs)
    (pa : Option Addr) (cap m : Nat) (news : List Value) (hx : a.eval x = .slice pa m cap) (hl : news.length = m * size) (hnews : m = 0 ∨ ∃ ad, pa = some ad ∧ ∀ j u, news[j]? = some u → w.cell? (ad.add j) = some u) (h1 : ∀ u ∈ news, u.oneCell' = true)
    (h63 : n + m ≤ maxLen) (hbytes : (n + m) * bytes ≤ 140737488355328) (hbase : base ≤ w.heap.size)
    (h : ∀ v' w', w'.ownsRow base e size v' (n + m) (xs ++ news) → Below base w w' → (∀ b o, b < w.heap.size → v.ownBlock ≠ some b → w'.cell? ⟨b, o, none⟩ = w.cell? ⟨b, o, none⟩ ∧ w'.frozen? ⟨b, o, none⟩ = w.frozen? ⟨b, o, none⟩) → K (a.put o.dst v') w') :
    if Region.wanted o (yielded ops a.tmps) = true then Oper.wp P o a w K Q else E := by
  have hw : Region.wanted o (yielded ops a.tmps) = true := by simp [Region.wanted, hgd]
  rw [if_pos hw]
  exact wp_append_in w s x t e ho i z size bytes ht hi hz hsize hby hzs hsz base v n xs hs hown pa cap m news hx hl hnews h1 h63 hbytes hbase h
end
end Go.Proofs.YtolkgnnjocmkdaaGreatDoor
/-
  Contracts of Go library functions at this program: the tables by which the library of proofs knows its functions here (made by the kit tool lay-plain).
-/
namespace Go.Proofs
open Go.Shelf
def Tryz.lays156_ren : Go.Shelf.Ren := ⟨fun | 156 => 105 | 165 => 162 | 166 => 163 | 169 => 164 | 240 => 210 | 241 => 211 | 276 => 255 | 277 => 256 | n => n, fun | 31 => 28 | 9 => 9 | 3 => 3 | 4 => 4 | 0 => 0 | 20 => 20 | 72 => 215 | 76 => 217 | 70 => 213 | 37 => 25 | 75 => 124 | 127 => 268 | 164 => 238 | 5 => 5 | 80 => 219 | n => n, fun | n => n⟩
theorem Tryz.lays156 : Go.Proofs.Lays.n156 Tryz.prog Tryz.lays156_ren := {
  mixed := by kernel_rfl
  f156 := Tryz.func105.trans (congrArg some (by kernel_rfl))
  f165 := Tryz.func162.trans (congrArg some (by kernel_rfl))
  f166 := Tryz.func163.trans (congrArg some (by kernel_rfl))
  f169 := Tryz.func164.trans (congrArg some (by kernel_rfl))
  f240 := Tryz.func210.trans (congrArg some (by kernel_rfl))
  f241 := Tryz.func211.trans (congrArg some (by kernel_rfl))
  f276 := Tryz.func255.trans (congrArg some (by kernel_rfl))
  f277 := Tryz.func256.trans (congrArg some (by kernel_rfl))
  t0 := Tryz.underlying0
  a0 := Tryz.isAgg0
  z0 := Tryz.sizeOf0
  v0 := Tryz.zeroValue0
  t3 := Tryz.underlying3
  a3 := Tryz.isAgg3
  z3 := Tryz.sizeOf3
  v3 := Tryz.zeroValue3
  t4 := Tryz.underlying4
  a4 := Tryz.isAgg4
  z4 := Tryz.sizeOf4
  v4 := Tryz.zeroValue4
  t9 := Tryz.underlying9
  a9 := Tryz.isAgg9
  z9 := Tryz.sizeOf9
  v9 := Tryz.zeroValue9
  t20 := Tryz.underlying20
  a20 := Tryz.isAgg20
  z20 := Tryz.sizeOf20
  v20 := Tryz.zeroValue20
  t31 := Tryz.underlying28
  a31 := Tryz.isAgg28
  z31 := Tryz.sizeOf28
  v31 := Tryz.zeroValue28
  t37 := Tryz.underlying25
  a37 := Tryz.isAgg25
  z37 := Tryz.sizeOf25
  v37 := Tryz.zeroValue25
  t70 := Tryz.underlying213
  a70 := Tryz.isAgg213
  z70 := Tryz.sizeOf213
  v70 := Tryz.zeroValue213
  t72 := Tryz.underlying215
  a72 := Tryz.isAgg215
  z72 := Tryz.sizeOf215
  v72 := Tryz.zeroValue215
  t75 := Tryz.underlying124
  a75 := Tryz.isAgg124
  z75 := Tryz.sizeOf124
  v75 := Tryz.zeroValue124
  t76 := Tryz.underlying217
  a76 := Tryz.isAgg217
  z76 := Tryz.sizeOf217
  v76 := Tryz.zeroValue217
  t127 := Tryz.underlying268
  a127 := Tryz.isAgg268
  z127 := Tryz.sizeOf268
  v127 := Tryz.zeroValue268
  t164 := Tryz.underlying238
  a164 := Tryz.isAgg238
  z164 := Tryz.sizeOf238
  v164 := Tryz.zeroValue238 }
def Tryz.lays160_ren : Go.Shelf.Ren := ⟨fun | 160 => 206 | 232 => 246 | 231 => 245 | 227 => 247 | 234 => 249 | 233 => 248 | 236 => 251 | 235 => 250 | 228 => 270 | 271 => 273 | 151 => 272 | 197 => 271 | 120 => 295 | 152 => 294 | 260 => 293 | 137 => 316 | 119 => 317 | 224 => 318 | 225 => 319 | 217 => 328 | 266 => 332 | n => n, fun | 9 => 9 | 4 => 4 | 3 => 3 | 5 => 5 | 117 => 298 | 116 => 297 | 0 => 0 | 124 => 301 | 21 => 21 | 105 => 320 | 46 => 346 | 119 => 358 | 139 => 361 | 138 => 360 | n => n, fun | 3 => 8 | 4 => 9 | n => n⟩
theorem Tryz.lays160 : Go.Proofs.Lays.n160 Tryz.prog Tryz.lays160_ren := {
  mixed := by kernel_rfl
  f119 := Tryz.func317.trans (congrArg some (by kernel_rfl))
  f120 := Tryz.func295.trans (congrArg some (by kernel_rfl))
  f137 := Tryz.func316.trans (congrArg some (by kernel_rfl))
  f151 := Tryz.func272.trans (congrArg some (by kernel_rfl))
  f152 := Tryz.func294.trans (congrArg some (by kernel_rfl))
  f160 := Tryz.func206.trans (congrArg some (by kernel_rfl))
  f197 := Tryz.func271.trans (congrArg some (by kernel_rfl))
  f217 := Tryz.func328.trans (congrArg some (by kernel_rfl))
  f224 := Tryz.func318.trans (congrArg some (by kernel_rfl))
  f225 := Tryz.func319.trans (congrArg some (by kernel_rfl))
  f227 := Tryz.func247.trans (congrArg some (by kernel_rfl))
  f228 := Tryz.func270.trans (congrArg some (by kernel_rfl))
  f231 := Tryz.func245.trans (congrArg some (by kernel_rfl))
  f232 := Tryz.func246.trans (congrArg some (by kernel_rfl))
  f233 := Tryz.func248.trans (congrArg some (by kernel_rfl))
  f234 := Tryz.func249.trans (congrArg some (by kernel_rfl))
  f235 := Tryz.func250.trans (congrArg some (by kernel_rfl))
  f236 := Tryz.func251.trans (congrArg some (by kernel_rfl))
  f260 := Tryz.func293.trans (congrArg some (by kernel_rfl))
  f266 := Tryz.func332.trans (congrArg some (by kernel_rfl))
  f271 := Tryz.func273.trans (congrArg some (by kernel_rfl))
  t0 := Tryz.underlying0
  a0 := Tryz.isAgg0
  z0 := Tryz.sizeOf0
  v0 := Tryz.zeroValue0
  t3 := Tryz.underlying3
  a3 := Tryz.isAgg3
  z3 := Tryz.sizeOf3
  v3 := Tryz.zeroValue3
  t4 := Tryz.underlying4
  a4 := Tryz.isAgg4
  z4 := Tryz.sizeOf4
  v4 := Tryz.zeroValue4
  t5 := Tryz.underlying5
  a5 := Tryz.isAgg5
  z5 := Tryz.sizeOf5
  v5 := Tryz.zeroValue5
  t9 := Tryz.underlying9
  a9 := Tryz.isAgg9
  z9 := Tryz.sizeOf9
  v9 := Tryz.zeroValue9
  t21 := Tryz.underlying21
  a21 := Tryz.isAgg21
  z21 := Tryz.sizeOf21
  v21 := Tryz.zeroValue21
  t46 := Tryz.underlying346
  a46 := Tryz.isAgg346
  z46 := Tryz.sizeOf346
  v46 := Tryz.zeroValue346
  t105 := Tryz.underlying320
  a105 := Tryz.isAgg320
  z105 := Tryz.sizeOf320
  v105 := Tryz.zeroValue320
  t116 := Tryz.underlying297
  a116 := Tryz.isAgg297
  z116 := Tryz.sizeOf297
  t117 := Tryz.underlying298
  a117 := Tryz.isAgg298
  z117 := Tryz.sizeOf298
  v117 := Tryz.zeroValue298
  t119 := Tryz.underlying358
  a119 := Tryz.isAgg358
  z119 := Tryz.sizeOf358
  t124 := Tryz.underlying301
  a124 := Tryz.isAgg301
  z124 := Tryz.sizeOf301
  v124 := Tryz.zeroValue301
  t138 := Tryz.underlying360
  a138 := Tryz.isAgg360
  z138 := Tryz.sizeOf360
  v138 := Tryz.zeroValue360
  t139 := Tryz.underlying361
  a139 := Tryz.isAgg361
  z139 := Tryz.sizeOf361
  v139 := Tryz.zeroValue361
  g3 := by kernel_rfl
  g4 := by kernel_rfl }
def Tryz.laysM316_ren : Go.Shelf.Ren := ⟨fun | 316 => 161 | n => n, fun | 9 => 9 | 3 => 3 | 4 => 4 | 37 => 25 | 0 => 0 | 127 => 268 | 5 => 5 | n => n, fun | n => n⟩
theorem Tryz.laysM316 : Go.Proofs.LaysM.n316 Tryz.prog Tryz.laysM316_ren := {
  mixed := by kernel_rfl
  f316 := Tryz.func161.trans (congrArg some (by kernel_rfl))
  t0 := Tryz.underlying0
  a0 := Tryz.isAgg0
  z0 := Tryz.sizeOf0
  v0 := Tryz.zeroValue0
  t3 := Tryz.underlying3
  a3 := Tryz.isAgg3
  z3 := Tryz.sizeOf3
  v3 := Tryz.zeroValue3
  t4 := Tryz.underlying4
  a4 := Tryz.isAgg4
  z4 := Tryz.sizeOf4
  v4 := Tryz.zeroValue4
  t9 := Tryz.underlying9
  a9 := Tryz.isAgg9
  z9 := Tryz.sizeOf9
  v9 := Tryz.zeroValue9
  t37 := Tryz.underlying25
  a37 := Tryz.isAgg25
  z37 := Tryz.sizeOf25
  v37 := Tryz.zeroValue25
  t127 := Tryz.underlying268
  a127 := Tryz.isAgg268
  z127 := Tryz.sizeOf268
  v127 := Tryz.zeroValue268
  t5 := Tryz.underlying5
  a5 := Tryz.isAgg5
  z5 := Tryz.sizeOf5
  v5 := Tryz.zeroValue5
  i0 := by kernel_rfl
  i3 := by kernel_rfl
  i4 := by kernel_rfl
  i5 := by kernel_rfl
  i9 := by kernel_rfl
  i37 := by kernel_rfl
  i127 := by kernel_rfl }
def Tryz.laysM145_ren : Go.Shelf.Ren := ⟨fun | 145 => 306 | 220 => 323 | 219 => 329 | 217 => 328 | 225 => 319 | 224 => 318 | 267 => 333 | 266 => 332 | 314 => 334 | n => n, fun | 9 => 9 | 4 => 4 | 59 => 349 | 3 => 3 | 5 => 5 | 46 => 346 | 146 => 367 | 51 => 343 | n => n, fun | 1 => 6 | n => n⟩
theorem Tryz.laysM145 : Go.Proofs.LaysM.n145 Tryz.prog Tryz.laysM145_ren := {
  mixed := by kernel_rfl
  f145 := Tryz.func306.trans (congrArg some (by kernel_rfl))
  f217 := Tryz.func328.trans (congrArg some (by kernel_rfl))
  f219 := Tryz.func329.trans (congrArg some (by kernel_rfl))
  f220 := Tryz.func323.trans (congrArg some (by kernel_rfl))
  f224 := Tryz.func318.trans (congrArg some (by kernel_rfl))
  f225 := Tryz.func319.trans (congrArg some (by kernel_rfl))
  f266 := Tryz.func332.trans (congrArg some (by kernel_rfl))
  f267 := Tryz.func333.trans (congrArg some (by kernel_rfl))
  f314 := Tryz.func334.trans (congrArg some (by kernel_rfl))
  t3 := Tryz.underlying3
  a3 := Tryz.isAgg3
  z3 := Tryz.sizeOf3
  v3 := Tryz.zeroValue3
  t4 := Tryz.underlying4
  a4 := Tryz.isAgg4
  z4 := Tryz.sizeOf4
  v4 := Tryz.zeroValue4
  t5 := Tryz.underlying5
  a5 := Tryz.isAgg5
  z5 := Tryz.sizeOf5
  v5 := Tryz.zeroValue5
  t9 := Tryz.underlying9
  a9 := Tryz.isAgg9
  z9 := Tryz.sizeOf9
  v9 := Tryz.zeroValue9
  t46 := Tryz.underlying346
  a46 := Tryz.isAgg346
  z46 := Tryz.sizeOf346
  v46 := Tryz.zeroValue346
  t51 := Tryz.underlying343
  a51 := Tryz.isAgg343
  z51 := Tryz.sizeOf343
  v51 := Tryz.zeroValue343
  t59 := Tryz.underlying349
  a59 := Tryz.isAgg349
  z59 := Tryz.sizeOf349
  v59 := Tryz.zeroValue349
  t146 := Tryz.underlying367
  a146 := Tryz.isAgg367
  z146 := Tryz.sizeOf367
  v146 := Tryz.zeroValue367
  g1 := by kernel_rfl
  i3 := by kernel_rfl
  i4 := by kernel_rfl
  i5 := by kernel_rfl
  i9 := by kernel_rfl
  i46 := by kernel_rfl
  i51 := by kernel_rfl
  i59 := by kernel_rfl
  i146 := by kernel_rfl
  m1 := by kernel_rfl
  s1_3 := fun w h => Go.Proofs.cell_of_shapedOpen_int (zero := #[.int .i64 0]) (t := 3) h (of_decide_eq_true (by kernel_rfl)) (by kernel_rfl) rfl (by kernel_rfl) (by kernel_rfl) Tryz.underlying3 }
def Tryz.laysM173_ren : Go.Shelf.Ren := ⟨fun | 173 => 209 | 246 => 254 | 283 => 275 | 284 => 276 | 285 => 277 | 286 => 278 | 129 => 298 | 317 => 297 | 318 => 299 | 319 => 300 | 320 => 301 | 337 => 320 | 338 => 321 | n => n, fun | 2 => 2 | 3 => 3 | 9 => 9 | 4 => 4 | 171 => 323 | 0 => 0 | 53 => 324 | 37 => 25 | 5 => 5 | 173 => 327 | 212 => 342 | 51 => 343 | 20 => 20 | 213 => 344 | 46 => 346 | 232 => 365 | 233 => 366 | n => n, fun | 17 => 7 | 18 => 10 | 19 => 11 | n => n⟩
theorem Tryz.laysM173 : Go.Proofs.LaysM.n173 Tryz.prog Tryz.laysM173_ren := {
  mixed := by kernel_rfl
  f129 := Tryz.func298.trans (congrArg some (by kernel_rfl))
  f173 := Tryz.func209.trans (congrArg some (by kernel_rfl))
  f246 := Tryz.func254.trans (congrArg some (by kernel_rfl))
  f283 := Tryz.func275.trans (congrArg some (by kernel_rfl))
  f284 := Tryz.func276.trans (congrArg some (by kernel_rfl))
  f285 := Tryz.func277.trans (congrArg some (by kernel_rfl))
  f286 := Tryz.func278.trans (congrArg some (by kernel_rfl))
  f317 := Tryz.func297.trans (congrArg some (by kernel_rfl))
  f318 := Tryz.func299.trans (congrArg some (by kernel_rfl))
  f319 := Tryz.func300.trans (congrArg some (by kernel_rfl))
  f320 := Tryz.func301.trans (congrArg some (by kernel_rfl))
  f337 := Tryz.func320.trans (congrArg some (by kernel_rfl))
  f338 := Tryz.func321.trans (congrArg some (by kernel_rfl))
  t0 := Tryz.underlying0
  a0 := Tryz.isAgg0
  z0 := Tryz.sizeOf0
  v0 := Tryz.zeroValue0
  t2 := Tryz.underlying2
  a2 := Tryz.isAgg2
  z2 := Tryz.sizeOf2
  v2 := Tryz.zeroValue2
  t3 := Tryz.underlying3
  a3 := Tryz.isAgg3
  z3 := Tryz.sizeOf3
  v3 := Tryz.zeroValue3
  t4 := Tryz.underlying4
  a4 := Tryz.isAgg4
  z4 := Tryz.sizeOf4
  v4 := Tryz.zeroValue4
  t5 := Tryz.underlying5
  a5 := Tryz.isAgg5
  z5 := Tryz.sizeOf5
  v5 := Tryz.zeroValue5
  t9 := Tryz.underlying9
  a9 := Tryz.isAgg9
  z9 := Tryz.sizeOf9
  v9 := Tryz.zeroValue9
  t20 := Tryz.underlying20
  a20 := Tryz.isAgg20
  z20 := Tryz.sizeOf20
  v20 := Tryz.zeroValue20
  t37 := Tryz.underlying25
  a37 := Tryz.isAgg25
  z37 := Tryz.sizeOf25
  v37 := Tryz.zeroValue25
  t46 := Tryz.underlying346
  a46 := Tryz.isAgg346
  z46 := Tryz.sizeOf346
  v46 := Tryz.zeroValue346
  t51 := Tryz.underlying343
  a51 := Tryz.isAgg343
  z51 := Tryz.sizeOf343
  v51 := Tryz.zeroValue343
  t53 := Tryz.underlying324
  a53 := Tryz.isAgg324
  z53 := Tryz.sizeOf324
  v53 := Tryz.zeroValue324
  t171 := Tryz.underlying323
  a171 := Tryz.isAgg323
  z171 := Tryz.sizeOf323
  v171 := Tryz.zeroValue323
  t173 := Tryz.underlying327
  a173 := Tryz.isAgg327
  z173 := Tryz.sizeOf327
  v173 := Tryz.zeroValue327
  t212 := Tryz.underlying342
  a212 := Tryz.isAgg342
  z212 := Tryz.sizeOf342
  v212 := Tryz.zeroValue342
  t213 := Tryz.underlying344
  a213 := Tryz.isAgg344
  z213 := Tryz.sizeOf344
  t232 := Tryz.underlying365
  a232 := Tryz.isAgg365
  z232 := Tryz.sizeOf365
  v232 := Tryz.zeroValue365
  t233 := Tryz.underlying366
  a233 := Tryz.isAgg366
  z233 := Tryz.sizeOf366
  v233 := Tryz.zeroValue366
  g17 := by kernel_rfl
  g18 := by kernel_rfl
  g19 := by kernel_rfl
  i0 := by kernel_rfl
  i2 := by kernel_rfl
  i3 := by kernel_rfl
  i4 := by kernel_rfl
  i5 := by kernel_rfl
  i9 := by kernel_rfl
  i20 := by kernel_rfl
  i37 := by kernel_rfl
  i46 := by kernel_rfl
  i51 := by kernel_rfl
  i53 := by kernel_rfl
  i171 := by kernel_rfl
  i173 := by kernel_rfl
  i212 := by kernel_rfl
  i232 := by kernel_rfl
  i233 := by kernel_rfl
  m17 := by kernel_rfl
  m18 := by kernel_rfl
  m19 := by kernel_rfl }
def Tryz.lays219_ren : Go.Shelf.Ren := ⟨fun | 219 => 329 | 217 => 328 | 225 => 319 | 224 => 318 | 267 => 333 | 266 => 332 | 314 => 334 | n => n, fun | 9 => 9 | 3 => 3 | 4 => 4 | 5 => 5 | 46 => 346 | 146 => 367 | 51 => 343 | n => n, fun | 1 => 6 | n => n⟩
theorem Tryz.lays219 : Go.Proofs.Lays.n219 Tryz.prog Tryz.lays219_ren := {
  mixed := by kernel_rfl
  f217 := Tryz.func328.trans (congrArg some (by kernel_rfl))
  f219 := Tryz.func329.trans (congrArg some (by kernel_rfl))
  f224 := Tryz.func318.trans (congrArg some (by kernel_rfl))
  f225 := Tryz.func319.trans (congrArg some (by kernel_rfl))
  f266 := Tryz.func332.trans (congrArg some (by kernel_rfl))
  f267 := Tryz.func333.trans (congrArg some (by kernel_rfl))
  f314 := Tryz.func334.trans (congrArg some (by kernel_rfl))
  t3 := Tryz.underlying3
  a3 := Tryz.isAgg3
  z3 := Tryz.sizeOf3
  v3 := Tryz.zeroValue3
  t4 := Tryz.underlying4
  a4 := Tryz.isAgg4
  z4 := Tryz.sizeOf4
  v4 := Tryz.zeroValue4
  t5 := Tryz.underlying5
  a5 := Tryz.isAgg5
  z5 := Tryz.sizeOf5
  v5 := Tryz.zeroValue5
  t9 := Tryz.underlying9
  a9 := Tryz.isAgg9
  z9 := Tryz.sizeOf9
  v9 := Tryz.zeroValue9
  t46 := Tryz.underlying346
  a46 := Tryz.isAgg346
  z46 := Tryz.sizeOf346
  v46 := Tryz.zeroValue346
  t51 := Tryz.underlying343
  a51 := Tryz.isAgg343
  z51 := Tryz.sizeOf343
  v51 := Tryz.zeroValue343
  t146 := Tryz.underlying367
  a146 := Tryz.isAgg367
  z146 := Tryz.sizeOf367
  v146 := Tryz.zeroValue367
  g1 := by kernel_rfl }
def Tryz.lays229_ren : Go.Shelf.Ren := ⟨fun | 229 => 241 | n => n, fun | 9 => 9 | 40 => 271 | 31 => 28 | 152 => 317 | 3 => 3 | 0 => 0 | 4 => 4 | 21 => 21 | 154 => 319 | n => n, fun | n => n⟩
theorem Tryz.lays229 : Go.Proofs.Lays.n229 Tryz.prog Tryz.lays229_ren := {
  mixed := by kernel_rfl
  f229 := Tryz.func241.trans (congrArg some (by kernel_rfl))
  t0 := Tryz.underlying0
  a0 := Tryz.isAgg0
  z0 := Tryz.sizeOf0
  v0 := Tryz.zeroValue0
  t3 := Tryz.underlying3
  a3 := Tryz.isAgg3
  z3 := Tryz.sizeOf3
  v3 := Tryz.zeroValue3
  t4 := Tryz.underlying4
  a4 := Tryz.isAgg4
  z4 := Tryz.sizeOf4
  v4 := Tryz.zeroValue4
  t9 := Tryz.underlying9
  a9 := Tryz.isAgg9
  z9 := Tryz.sizeOf9
  v9 := Tryz.zeroValue9
  t21 := Tryz.underlying21
  a21 := Tryz.isAgg21
  z21 := Tryz.sizeOf21
  v21 := Tryz.zeroValue21
  t31 := Tryz.underlying28
  a31 := Tryz.isAgg28
  z31 := Tryz.sizeOf28
  v31 := Tryz.zeroValue28
  t40 := Tryz.underlying271
  a40 := Tryz.isAgg271
  z40 := Tryz.sizeOf271
  v40 := Tryz.zeroValue271
  t152 := Tryz.underlying317
  a152 := Tryz.isAgg317
  z152 := Tryz.sizeOf317
  v152 := Tryz.zeroValue317
  t154 := Tryz.underlying319
  a154 := Tryz.isAgg319
  z154 := Tryz.sizeOf319
  v154 := Tryz.zeroValue319 }
def Tryz.lays99_ren : Go.Shelf.Ren := ⟨fun | 99 => 217 | 206 => 259 | n => n, fun | 9 => 9 | 4 => 4 | 3 => 3 | n => n, fun | n => n⟩
theorem Tryz.lays99 : Go.Proofs.Lays.n99 Tryz.prog Tryz.lays99_ren := {
  mixed := by kernel_rfl
  f99 := Tryz.func217.trans (congrArg some (by kernel_rfl))
  f206 := Tryz.func259.trans (congrArg some (by kernel_rfl))
  t3 := Tryz.underlying3
  a3 := Tryz.isAgg3
  z3 := Tryz.sizeOf3
  v3 := Tryz.zeroValue3
  t4 := Tryz.underlying4
  a4 := Tryz.isAgg4
  z4 := Tryz.sizeOf4
  v4 := Tryz.zeroValue4
  t9 := Tryz.underlying9
  a9 := Tryz.isAgg9
  z9 := Tryz.sizeOf9
  v9 := Tryz.zeroValue9 }
end Go.Proofs
/-
  A slice of texts that the call itself grows; joined and copied.
-/
namespace Go.Proofs.YtolkgnnjocmkdaaGreatDoor
open Go.ChangeShapes Go.WideShapes Go.ChangeAt Go.RowKit
theorem infoStr : (Tryz.prog.info? 9).map (fun i => (i.zero, i.size, i.bytes)) = some (some (.string ⟨#[]⟩), 1, 16) := by kernel_rfl
def textsW (l : List ByteArray) : List Value := l.map Value.string
/-- v, nil or not, holds the texts l in a row of the call's own. -/
def OwnS (w : World) (base : Nat) (v : Value) (l : List ByteArray) : Prop := w.ownsRow base 9 1 v l.length (textsW l)
theorem OwnS.nil (w : World) (base : Nat) : OwnS w base (.slice none 0 0) [] := World.ownsRow_nil _ _ _ _
theorem OwnS.below {w w' : World} {base : Nat} {v : Value} {l : List ByteArray} (h : OwnS w base v l) (hb : Below w.heap.size w w') : OwnS w' base v l := by
  obtain ⟨h1, h2⟩ := h
  refine ⟨h1, ?_⟩
  rcases h2 with h2 | ⟨g, c, cur, e, hg, hh, hrest⟩
  · exact .inl h2
  · exact .inr ⟨g, c, cur, e, hg, by rw [hb.block g (Array.getElem?_eq_some_iff.1 hh).1]; exact hh, hrest⟩
theorem OwnS.lower {w : World} {b0 base : Nat} {v : Value} {l : List ByteArray} (h : OwnS w base v l) (hb : b0 ≤ base) : OwnS w b0 v l := by
  obtain ⟨h1, h2⟩ := h
  refine ⟨h1, ?_⟩
  rcases h2 with h2 | ⟨g, c, cur, e, hg, hrest⟩
  · exact .inl h2
  · exact .inr ⟨g, c, cur, e, by omega, hrest⟩
theorem own_geS {w : World} {base : Nat} {e : TypeId} {size : Nat} {v : Value} {n : Nat} {xs : List Value} (h : w.ownsRow base e size v n xs) (q : Nat) (hq : v.ownBlock = some q) : base ≤ q := by
  obtain ⟨_, h | ⟨g, c, cur, rfl, hg, _⟩⟩ := h
  · rw [h.1] at hq; cases hq
  · simp only [Value.ownBlock, Option.some.injEq] at hq; omega
theorem wpList_append_str {ops : Array Oper} {rest : List Oper} {o : Oper} {a : Act} {Q : Exit → Act → World → Prop} (w : World) (hgd : o.guard = none) (s x : Operand)
    (ho : o.op = .call { callee := .builtin .append, args := #[s, x], argTypes := #[28, 28] }) (base : Nat) (v : Value) (l : List ByteArray) (z : ByteArray)
    (hs : a.eval s = v) (hx : a.eval x = .slice (some ⟨w.heap.size, 0, none⟩) 1 1) (hown : OwnS w base v l) (hl : l.length ≤ 1000000) (hbase : base ≤ w.heap.size)
    (h : ∀ v' w', OwnS w' base v' (l ++ [z]) → Below base w w' → w.heap.size ≤ w'.heap.size → wpList Tryz.prog ops Q rest (a.put o.dst v') w') :
    wpList Tryz.prog ops Q (o :: rest) a (w.alloc (.cells #[.string z] 9)) := by
  obtain ⟨i0, hi, hz0, hz1, hz2⟩ := info_parts infoStr
  refine wpList_append_own _ hgd s x 28 ho base 9 i0 (.string ⟨#[]⟩) 1 16 Tryz.underlying28 hi hz0 hz1 hz2 rfl (by decide) v l.length (textsW l) hs (World.ownsRow.alloc hown _) ⟨w.heap.size, 0, none⟩ 1 1 [.string z] hx rfl ?_ ?_ ?_ ?_ ?_ ?_
  · intro j u hj
    match j, hj with
    | 0, hj => simp at hj; subst hj; simp [Addr.add]
  · intro u hu; simp at hu; subst hu; rfl
  · unfold maxLen; omega
  · omega
  · simp; omega
  · intro v' w' h1 h2 h3
    have e : textsW (l ++ [z]) = textsW l ++ [Value.string z] := by simp [textsW]
    refine h v' w' (by unfold OwnS; rw [e, List.length_append]; exact h1) ?_ ?_
    · exact ((Below.refl base w).alloc hbase _).grown h2 (by simp; omega) (fun q hq => own_geS hown q hq)
    · have hb := ((Below.refl 0 w).alloc (Nat.zero_le _) (.cells #[.string z] 9)).grown h2 (Nat.zero_le _) (fun q _ => Nat.zero_le _)
      exact hb.size
theorem joinExtra : Builder.Extra Tryz.prog Tryz.lays156_ren where -- of 105
  sizeBuilder := by kernel_rfl
  liesBuilder := by kernel_rfl
  t5 := Tryz.underlying5
  a5 := Tryz.isAgg5
  z5 := Tryz.sizeOf5
  v5 := Tryz.zeroValue5
  infoByte := by kernel_rfl
  cellsByte := by kernel_rfl
  sizeByte := by kernel_rfl
  neB5 := by decide
/-- strings.Join over the call's own texts. -/
theorem join_own (w : World) (base : Nat) (v : Value) (xs : List ByteArray) (h : OwnS w base v xs) (hN : xs.length ≤ 1000000) (hlen : (Lib.join (xs.map (·.data.toList)) [44, 32]).length ≤ 1000000) :
    Calls Tryz.prog 105 #[v, .string ⟨#[44, 32]⟩] w fun e w' => e = .returned (.string ⟨(Lib.join (xs.map (·.data.toList)) [44, 32]).toArray⟩) ∧ Below w.heap.size w w' := by
  have h0 := h
  obtain ⟨_, h1 | ⟨g, c, cur, rfl, _, hh, hcap, _⟩⟩ := h
  · have : xs = [] := List.eq_nil_of_length_eq_zero h1.2
    subst this
    rw [h1.1]
    exact (Any.strings_Join_none Tryz.lays156 joinExtra none 0 ⟨#[44, 32]⟩ w).mono fun e w' ⟨he, hw⟩ => ⟨he, hw ▸ Below.refl _ _⟩
  · refine Any.strings_Join Tryz.lays156 joinExtra g 0 c xs ⟨#[44, 32]⟩ w ?_ (Array.getElem?_eq_some_iff.1 hh).1 (by omega) hcap (by simpa using (by omega : (Lib.join (xs.map (·.data.toList)) [44, 32]).length ≤ 140737488355328))
    intro j x hj
    have hj2 := (List.getElem?_eq_some_iff.1 hj).1
    have := World.ownsRow.cellAt h0 j (by omega)
    rw [show 0 + j = j from by omega]
    rw [this]
    simp [textsW, hj]
theorem clone_lib2 (s : ByteArray) (w : World) (hs : s.size ≤ 1048576) :
    Calls Tryz.prog 161 #[.string s] w fun e w' => e = .returned (.string s) ∧ Below w.heap.size w w' :=
  Any.stringslite_Clone Tryz.laysM316 s w (by omega)
set_option maxHeartbeats 400000 in
theorem clone_text (s : ByteArray) (w : World) (hs : s.size ≤ 1048576) :
    Calls Tryz.prog 104 #[.string s] w fun e w' => e = .returned (.string s) ∧ Below w.heap.size w w' := by
  go_enter Tryz.func104, Tryz.ntmps104
  go_wp2_with fail
  refine (clone_lib2 s _ hs).mono ?_
  rintro e w1 ⟨rfl, hb⟩
  go_wp2
  go_ret
  exact ⟨rfl, hb⟩
end Go.Proofs.YtolkgnnjocmkdaaGreatDoor
/-
  Head lines that the call itself grows.
-/
namespace Go.Proofs.YtolkgnnjocmkdaaGreatDoor
open Go.ChangeShapes Go.WideShapes Go.ChangeAt Go.RowKit
def hdrW (r : Hdr) : List Value := [.string r.name, .string r.value]
def hdrsW (l : List Hdr) : List Value := l.flatMap hdrW
theorem hdrsW_len (l : List Hdr) : (hdrsW l).length = l.length * 2 := by
  induction l with
  | nil => rfl
  | cons r l ih => simp only [hdrsW, List.flatMap_cons, List.length_append, List.length_cons] at ih ⊢; rw [ih]; simp [hdrW]; omega
theorem hdrsW_at (l : List Hdr) : ∀ (i : Nat) r, l[i]? = some r → (hdrsW l)[i * 2]? = some (.string r.name) ∧ (hdrsW l)[i * 2 + 1]? = some (.string r.value) := by
  induction l with
  | nil => intro i r hr; simp at hr
  | cons x l ih =>
    intro i r hr
    have e : hdrsW (x :: l) = .string x.name :: .string x.value :: hdrsW l := by simp [hdrsW, hdrW]
    rw [e]
    cases i with
    | zero => simp at hr; subst hr; simp
    | succ i =>
      have := ih i r (by simpa using hr)
      rw [show (i + 1) * 2 = i * 2 + 1 + 1 from by omega]
      simpa using this
/-- v, nil or not, holds the items l in a row of the call's own, from block base on. -/
def OwnH (w : World) (base : Nat) (v : Value) (l : List Hdr) : Prop := w.ownsRow base 110 2 v l.length (hdrsW l)
theorem OwnH.nil (w : World) (base : Nat) : OwnH w base (.slice none 0 0) [] := World.ownsRow_nil _ _ _ _
theorem OwnH.made0 (w : World) (base : Nat) (hb : base ≤ w.heap.size) : OwnH (w.alloc (.cells #[] 110)) base (.slice (some ⟨w.heap.size, 0, none⟩) 0 0) [] := World.ownsRow_made w #[] 0 hb (by unfold maxLen; omega) rfl
theorem OwnH.below {w w' : World} {base : Nat} {v : Value} {l : List Hdr} (h : OwnH w base v l) (hb : Below w.heap.size w w') : OwnH w' base v l := by
  obtain ⟨h1, h2⟩ := h
  refine ⟨h1, ?_⟩
  rcases h2 with h2 | ⟨g, c, cur, e, hg, hh, hrest⟩
  · exact .inl h2
  · exact .inr ⟨g, c, cur, e, hg, by rw [hb.block g (Array.getElem?_eq_some_iff.1 hh).1]; exact hh, hrest⟩
theorem OwnH.lower {w : World} {b0 base : Nat} {v : Value} {l : List Hdr} (h : OwnH w base v l) (hb : b0 ≤ base) : OwnH w b0 v l := by
  obtain ⟨h1, h2⟩ := h
  refine ⟨h1, ?_⟩
  rcases h2 with h2 | ⟨g, c, cur, e, hg, hrest⟩
  · exact .inl h2
  · exact .inr ⟨g, c, cur, e, by omega, hrest⟩
theorem OwnH.at {w : World} {base : Nat} {v : Value} {l : List Hdr} (h : OwnH w base v l) : ∃ a c, v = .slice a l.length c ∧ HdsIn w a l := by
  have h0 := h
  obtain ⟨_, h1 | ⟨g, c, cur, rfl, _⟩⟩ := h
  · have e : l = [] := List.eq_nil_of_length_eq_zero h1.2
    exact ⟨none, 0, by rw [h1.1, e]; rfl, .inl e⟩
  · refine ⟨_, c, rfl, .inr ⟨g, 0, rfl, fun i r hr => ?_⟩⟩
    have hi := (List.getElem?_eq_some_iff.1 hr).1
    obtain ⟨a1, a3⟩ := hdrsW_at l i r hr
    have c1 := World.ownsRow.cellAt h0 (i * 2) (by omega)
    have c3 := World.ownsRow.cellAt h0 (i * 2 + 1) (by omega)
    exact ⟨by rw [Nat.zero_add, c1, a1], by rw [Nat.zero_add, c3, a3]⟩
theorem own_geH {w : World} {base : Nat} {e : TypeId} {size : Nat} {v : Value} {n : Nat} {xs : List Value} (h : w.ownsRow base e size v n xs) (q : Nat) (hq : v.ownBlock = some q) : base ≤ q := by
  obtain ⟨_, h | ⟨g, c, cur, rfl, hg, _⟩⟩ := h
  · rw [h.1] at hq; cases hq
  · simp only [Value.ownBlock, Option.some.injEq] at hq; omega
theorem own_apartH {w : World} {base base' : Nat} {v pv : Value} {l : List Hdr} {L : List ByteArray} (hp : OwnS w base' pv L) (hv : OwnH w base v l) : pv.ownBlock = none ∨ pv.ownBlock ≠ v.ownBlock := by
  obtain ⟨_, hp | ⟨g, c, cur, rfl, _, hh, _⟩⟩ := hp
  · left; rw [hp.1]; rfl
  · right
    obtain ⟨_, hv | ⟨g2, c2, cur2, rfl, _, hh2, _⟩⟩ := hv
    · rw [hv.1]; simp [Value.ownBlock]
    · simp only [Value.ownBlock, ne_eq, Option.some.injEq]
      rintro rfl
      rw [hh] at hh2
      simp at hh2
theorem wpList_append_hdr {ops : Array Oper} {rest : List Oper} {o : Oper} {a : Act} {Q : Exit → Act → World → Prop} (w : World) (hgd : o.guard = none) (s x : Operand)
    (ho : o.op = .call { callee := .builtin .append, args := #[s, x], argTypes := #[33, 33] }) (base : Nat) (v : Value) (l : List Hdr) (n : ByteArray) (z : ByteArray)
    (hs : a.eval s = v) (hx : a.eval x = .slice (some ⟨w.heap.size, 0, none⟩) 1 1) (hown : OwnH w base v l) (hl : l.length ≤ 1000000) (hbase : base ≤ w.heap.size)
    (h : ∀ v' w', OwnH w' base v' (l ++ [⟨n, z⟩]) → Below base w w' → w.heap.size ≤ w'.heap.size → (∀ base' pv L, OwnS w base' pv L → OwnS w' base' pv L) → wpList Tryz.prog ops Q rest (a.put o.dst v') w') :
    wpList Tryz.prog ops Q (o :: rest) a (w.alloc (.cells #[.string n, .string z] 110)) := by
  obtain ⟨i0, hi, hz0, hz1, hz2⟩ := info_parts infoHeader
  refine wpList_append_own _ hgd s x 33 ho base 110 i0 (.agg #[.string ⟨#[]⟩, .string ⟨#[]⟩]) 2 32 Tryz.underlying33 hi hz0 hz1 hz2 rfl (by decide) v l.length (hdrsW l) hs (World.ownsRow.alloc hown _) ⟨w.heap.size, 0, none⟩ 1 1 [.string n, .string z] hx rfl ?_ ?_ ?_ ?_ ?_ ?_
  · intro j u hj
    match j, hj with
    | 0, hj => simp at hj; subst hj; simp [Addr.add]
    | 1, hj => simp at hj; subst hj; simp [Addr.add]
  · intro u hu; simp at hu; rcases hu with rfl | rfl <;> rfl
  · unfold maxLen; omega
  · omega
  · simp; omega
  · intro v' w' h1 h2 h3
    have e : hdrsW (l ++ [⟨n, z⟩]) = hdrsW l ++ [.string n, .string z] := by simp [hdrsW, hdrW]
    refine h v' w' (by unfold OwnH; rw [e, List.length_append]; exact h1) ?_ ?_ ?_
    · exact ((Below.refl base w).alloc hbase _).grown h2 (by simp; omega) (fun q hq => own_geH hown q hq)
    · have hb := ((Below.refl 0 w).alloc (Nat.zero_le _) (.cells #[.string n, .string z] 110)).grown h2 (Nat.zero_le _) (fun q _ => Nat.zero_le _)
      exact hb.size
    · intro base' pv L hp
      exact World.ownsRow.kept (World.ownsRow.alloc hp _) h2 (own_apartH hp hown)
end Go.Proofs.YtolkgnnjocmkdaaGreatDoor
/-
  Copies of head lines, bytes and texts, by the model.
-/
namespace Go.Proofs.YtolkgnnjocmkdaaGreatDoor
open Go.ChangeShapes Go.WideShapes Go.ChangeAt Go.RowKit Go.Sort
theorem cHeadI : (Tryz.prog.info? 110).map (fun i => (i.zero, i.size, i.bytes)) = some (some (.agg #[.string ⟨#[]⟩, .string ⟨#[]⟩]), 2, 32) := by kernel_rfl
theorem cByteI : (Tryz.prog.info? 5).map (fun i => (i.zero, i.size, i.bytes)) = some (some (.int .u8 0), 1, 1) := by kernel_rfl
theorem cTextI : (Tryz.prog.info? 9).map (fun i => (i.zero, i.size, i.bytes)) = some (some (.string ⟨#[]⟩), 1, 16) := by kernel_rfl
def cBytes (l : List UInt8) : List Value := l.map fun c => Value.int .u8 (c.toNat : Int)
def cTexts (l : List ByteArray) : List Value := l.map Value.string
def RowB (w : World) (base : Nat) (v : Value) (l : List UInt8) : Prop := w.ownsRow base 5 1 v l.length (cBytes l)
def RowT (w : World) (base : Nat) (v : Value) (l : List ByteArray) : Prop := w.ownsRow base 9 1 v l.length (cTexts l)
def RowH (w : World) (base : Nat) (v : Value) (l : List Hdr) : Prop := w.ownsRow base 110 2 v l.length (hdrsW l)
theorem cadd (b off j : Nat) : (⟨b, off, none⟩ : Addr).add j = ⟨b, off + j, none⟩ := by unfold Addr.add; split <;> simp_all
theorem cBytes_in {w : World} {a : Option Addr} {l : List UInt8} (h : BIn w a l) : l.length = 0 ∨ ∃ ad, a = some ad ∧ ∀ j u, (cBytes l)[j]? = some u → w.cell? (ad.add j) = some u := by
  rcases h with rfl | ⟨b, off, rfl, h⟩
  · exact .inl rfl
  · refine .inr ⟨_, rfl, fun j u hj => ?_⟩
    unfold cBytes at hj
    rw [List.getElem?_map] at hj
    obtain ⟨c, hc, rfl⟩ := Option.map_eq_some_iff.1 hj
    rw [cadd]
    exact h j c hc
theorem cTexts_in {w : World} {a : Option Addr} {l : List ByteArray} (h : TIn w a l) : l.length = 0 ∨ ∃ ad, a = some ad ∧ ∀ j u, (cTexts l)[j]? = some u → w.cell? (ad.add j) = some u := by
  rcases h with rfl | ⟨b, off, rfl, h⟩
  · exact .inl rfl
  · refine .inr ⟨_, rfl, fun j u hj => ?_⟩
    unfold cTexts at hj
    rw [List.getElem?_map] at hj
    obtain ⟨c, hc, rfl⟩ := Option.map_eq_some_iff.1 hj
    rw [cadd]
    exact h j c hc
theorem cHeads_in {w : World} {a : Option Addr} {l : List Hdr} (h : HdsIn w a l) : l.length = 0 ∨ ∃ ad, a = some ad ∧ ∀ j u, (hdrsW l)[j]? = some u → w.cell? (ad.add j) = some u := by
  rcases h with rfl | ⟨b, off, rfl, h⟩
  · exact .inl rfl
  · refine .inr ⟨_, rfl, fun j u hj => ?_⟩
    rw [cadd]
    have hlt : j < (hdrsW l).length := (List.getElem?_eq_some_iff.1 hj).1
    rw [hdrsW_len] at hlt
    obtain ⟨r, hr⟩ : ∃ r, l[j / 2]? = some r := ⟨l[j / 2]'(by omega), List.getElem?_eq_getElem _⟩
    obtain ⟨e0, e1⟩ := hdrsW_at l (j / 2) r hr
    obtain ⟨c0, c1⟩ := h (j / 2) r hr
    rcases Nat.mod_two_eq_zero_or_one j with hm | hm
    · have ej : j / 2 * 2 = j := by omega
      rw [ej] at e0 c0
      rw [e0] at hj
      rw [← hj]; exact c0
    · have ej : j / 2 * 2 + 1 = j := by omega
      rw [ej] at e1
      rw [Nat.add_assoc, ej] at c1
      rw [e1] at hj
      rw [← hj]; exact c1
theorem cOneB (l : List UInt8) : ∀ u ∈ cBytes l, u.oneCell' = true := fun u hu => by obtain ⟨c, _, rfl⟩ := List.mem_map.1 hu; rfl
theorem cOneT (l : List ByteArray) : ∀ u ∈ cTexts l, u.oneCell' = true := fun u hu => by obtain ⟨c, _, rfl⟩ := List.mem_map.1 hu; rfl
theorem cOneH (l : List Hdr) : ∀ u ∈ hdrsW l, u.oneCell' = true := by
  intro u hu
  simp only [hdrsW, List.mem_flatMap] at hu
  obtain ⟨r, _, hr⟩ := hu
  simp only [hdrW, List.mem_cons, List.not_mem_nil, or_false] at hr
  rcases hr with rfl | rfl <;> rfl
theorem RowB.in {w : World} {base : Nat} {v : Value} {l : List UInt8} (h : RowB w base v l) : ∃ a c, v = .slice a l.length c ∧ l.length ≤ c ∧ BIn w a l := by
  have h0 := h
  obtain ⟨_, h1 | ⟨g, c, cur, rfl, _, _, hc, _⟩⟩ := h
  · have e : l = [] := List.eq_nil_of_length_eq_zero h1.2
    subst e
    exact ⟨none, 0, h1.1, Nat.le_refl _, .inl rfl⟩
  · refine ⟨_, c, rfl, hc, .inr ⟨g, 0, rfl, fun i q hq => ?_⟩⟩
    have hi := (List.getElem?_eq_some_iff.1 hq).1
    have c1 := World.ownsRow.cellAt h0 i (by omega)
    rw [Nat.zero_add, c1]
    unfold cBytes
    rw [List.getElem?_map, hq]
    rfl
theorem RowT.in {w : World} {base : Nat} {v : Value} {l : List ByteArray} (h : RowT w base v l) : ∃ a c, v = .slice a l.length c ∧ l.length ≤ c ∧ TIn w a l := by
  have h0 := h
  obtain ⟨_, h1 | ⟨g, c, cur, rfl, _, _, hc, _⟩⟩ := h
  · have e : l = [] := List.eq_nil_of_length_eq_zero h1.2
    subst e
    exact ⟨none, 0, h1.1, Nat.le_refl _, .inl rfl⟩
  · refine ⟨_, c, rfl, hc, .inr ⟨g, 0, rfl, fun i q hq => ?_⟩⟩
    have hi := (List.getElem?_eq_some_iff.1 hq).1
    have c1 := World.ownsRow.cellAt h0 i (by omega)
    rw [Nat.zero_add, c1]
    unfold cTexts
    rw [List.getElem?_map, hq]
    rfl
theorem RowH.in {w : World} {base : Nat} {v : Value} {l : List Hdr} (h : RowH w base v l) : ∃ a c, v = .slice a l.length c ∧ l.length ≤ c ∧ HdsIn w a l := by
  have hf := row_form h
  obtain ⟨va, vc, e, hle⟩ := hf
  obtain ⟨a, c, e2, hi⟩ := OwnH.at (w := w) (base := base) (v := v) (l := l) h
  rw [e] at e2
  simp only [Value.slice.injEq, true_and] at e2
  obtain ⟨rfl, rfl⟩ := e2
  exact ⟨va, vc, e, hle, hi⟩
set_option maxHeartbeats 2000000 in
theorem l4Copy_in (w : World) (a : Option Addr) (cap : Nat) (l : List Hdr) (hl : l.length ≤ 1048576) (hi : HdsIn w a l) :
    Calls Tryz.prog 135 #[.slice a l.length cap] w fun e w' => (∃ v, e = .returned v ∧ RowH w' w.heap.size v l) ∧ Below w.heap.size w w' := by
  obtain ⟨i0, hi0, hz0, hz1, hz2⟩ := info_parts cHeadI
  have B1 : Hid (Below w.heap.size w (w.alloc (.cells #[] 110))) := (Below.refl _ _).alloc (Nat.le_refl _) _
  have O1 : Hid ((w.alloc (.cells #[] 110)).ownsRow w.heap.size 110 2 (.slice (some ⟨w.heap.size, 0, none⟩) 0 0) 0 []) := World.ownsRow_made w #[] 0 (Nat.le_refl _) (by unfold maxLen; omega) rfl
  have HIN : Hid (l.length = 0 ∨ ∃ ad, a = some ad ∧ ∀ j u, (hdrsW l)[j]? = some u → (w.alloc (.cells #[] 110)).cell? (ad.add j) = some u) := cHeads_in (hi.keep B1.out)
  have HLN : Hid ((hdrsW l).length = l.length * 2) := by show _ = _; rw [hdrsW_len]
  have HRW : Hid (∀ X v, X.ownsRow w.heap.size 110 2 v (0 + l.length) ([] ++ hdrsW l) → RowH X w.heap.size v l) := fun X v h => by rw [Nat.zero_add, List.nil_append] at h; exact h
  clear hi
  generalize hn : l.length = n at *
  clear hn
  go_enter Tryz.func135, Tryz.ntmps135
  go_wp2_with (at_builtin; refine wpList_plain rfl fun _ hK => wp_append_in _ (.tmp 3) (.tmp 4) 33 110 rfl i0 _ 2 32 Tryz.underlying33 hi0 hz0 hz1 hz2 rfl (by omega) w.heap.size _ 0 [] rfl O1.out a cap n (hdrsW l) rfl HLN.out HIN.out (cOneH l) (by unfold maxLen; omega) (by omega) B1.out.size (fun v' w' h1 h2 _ => hK _ _ ?_))
  go_ret
  exact ⟨⟨_, rfl, HRW.out _ _ h1⟩, B1.out.trans h2⟩
set_option maxHeartbeats 2000000 in
theorem l1Copy_in (w : World) (a : Option Addr) (cap : Nat) (l : List UInt8) (hl : l.length ≤ 1048576) (hi : BIn w a l) :
    Calls Tryz.prog 136 #[.slice a l.length cap] w fun e w' => (∃ v, e = .returned v ∧ RowB w' w.heap.size v l) ∧ Below w.heap.size w w' := by
  obtain ⟨i0, hi0, hz0, hz1, hz2⟩ := info_parts cByteI
  have B1 : Hid (Below w.heap.size w (w.alloc (.cells #[] 5))) := (Below.refl _ _).alloc (Nat.le_refl _) _
  have O1 : Hid ((w.alloc (.cells #[] 5)).ownsRow w.heap.size 5 1 (.slice (some ⟨w.heap.size, 0, none⟩) 0 0) 0 []) := World.ownsRow_made w #[] 0 (Nat.le_refl _) (by unfold maxLen; omega) rfl
  have HIN : Hid (l.length = 0 ∨ ∃ ad, a = some ad ∧ ∀ j u, (cBytes l)[j]? = some u → (w.alloc (.cells #[] 5)).cell? (ad.add j) = some u) := cBytes_in (hi.keep B1.out)
  have HLN : Hid ((cBytes l).length = l.length * 1) := by show _ = _; unfold cBytes; simp
  have HRW : Hid (∀ X v, X.ownsRow w.heap.size 5 1 v (0 + l.length) ([] ++ cBytes l) → RowB X w.heap.size v l) := fun X v h => by rw [Nat.zero_add, List.nil_append] at h; exact h
  clear hi
  generalize hn : l.length = n at *
  clear hn
  go_enter Tryz.func136, Tryz.ntmps136
  go_wp2_with (at_builtin; refine wpList_plain rfl fun _ hK => wp_append_in _ (.tmp 3) (.tmp 4) 25 5 rfl i0 _ 1 1 Tryz.underlying25 hi0 hz0 hz1 hz2 rfl (by omega) w.heap.size _ 0 [] rfl O1.out a cap n (cBytes l) rfl HLN.out HIN.out (cOneB l) (by unfold maxLen; omega) (by omega) B1.out.size (fun v' w' h1 h2 _ => hK _ _ ?_))
  go_ret
  exact ⟨⟨_, rfl, HRW.out _ _ h1⟩, B1.out.trans h2⟩
end Go.Proofs.YtolkgnnjocmkdaaGreatDoor
/-
  Entries that are pointed at: rows of pointers that are one's own.
-/
namespace Go.Proofs.YtolkgnnjocmkdaaGreatDoor
open Go.ChangeShapes Go.WideShapes Go.ChangeAt Go.RowKit Go.Sort
/-- An entry and where it lies. -/
structure Hdl where
  b : Nat
  o : Nat
  x : Ent
  r : EntR
def hP (h : Hdl) : Value := .pointer (some ⟨h.b, h.o, none⟩)
/-- It lies there. -/
def HThere (w : World) (h : Hdl) : Prop := (∀ j, j < 13 → w.cell? ⟨h.b, h.o + j, none⟩ = (entW h.x h.r)[j]?) ∧ EntIn w h.x h.r
theorem HThere.lt {w : World} {h : Hdl} (k : HThere w h) : h.b < w.heap.size := block_lt_of_cell (k.1 0 (by omega))
theorem HThere.keep {w w' : World} {h : Hdl} (k : HThere w h) (hb : Below w.heap.size w w') : HThere w' h :=
  ⟨fun j hj => by rw [hb.cell (p := ⟨h.b, h.o + j, none⟩) k.lt]; exact k.1 j hj, k.2.keep hb⟩
theorem HThere.cells {w : World} {h : Hdl} (k : HThere w h) : w.cell? ⟨h.b, h.o, none⟩ = some (.string h.x.key) ∧ w.cell? ⟨h.b, h.o + 1, none⟩ = some (.int .i64 h.x.st) ∧ w.cell? ⟨h.b, h.o + 2, none⟩ = some (.slice h.r.ha h.x.hs.length h.r.hc) ∧ w.cell? ⟨h.b, h.o + 3, none⟩ = some (.slice h.r.ba h.x.bl.length h.r.bc) ∧ w.cell? ⟨h.b, h.o + 4, none⟩ = some (.int .i64 h.x.t) ∧ w.cell? ⟨h.b, h.o + 5, none⟩ = some (.int .i64 h.x.g) ∧ w.cell? ⟨h.b, h.o + 6, none⟩ = some (.int .i64 h.x.l) ∧ w.cell? ⟨h.b, h.o + 7, none⟩ = some (.int .i64 h.x.s) ∧ w.cell? ⟨h.b, h.o + 8, none⟩ = some (.int .i64 h.x.e) ∧ w.cell? ⟨h.b, h.o + 9, none⟩ = some (.bool h.x.b1) ∧ w.cell? ⟨h.b, h.o + 10, none⟩ = some (.bool h.x.b2) ∧ w.cell? ⟨h.b, h.o + 11, none⟩ = some (.slice h.r.ta h.x.ts.length h.r.tc) ∧ w.cell? ⟨h.b, h.o + 12, none⟩ = some (.int .i64 h.x.pins) :=
  ⟨k.1 0 (by omega), k.1 1 (by omega), k.1 2 (by omega), k.1 3 (by omega), k.1 4 (by omega), k.1 5 (by omega), k.1 6 (by omega), k.1 7 (by omega), k.1 8 (by omega), k.1 9 (by omega), k.1 10 (by omega), k.1 11 (by omega), k.1 12 (by omega)⟩
/-- The entries of a list, each where it lies. -/
def hdls (b off : Nat) (l : List (Ent × EntR)) : List Hdl := l.mapIdx (fun i q => ⟨b, off + i * 13, q.1, q.2⟩)
theorem hdls_at {b off : Nat} {l : List (Ent × EntR)} {i : Nat} {q : Ent × EntR} (h : l[i]? = some q) : (hdls b off l)[i]? = some ⟨b, off + i * 13, q.1, q.2⟩ := by
  unfold hdls
  rw [List.getElem?_mapIdx, h]
  rfl
theorem hdls_len (b off : Nat) (l : List (Ent × EntR)) : (hdls b off l).length = l.length := by simp [hdls]
theorem hdls_x (b off : Nat) (l : List (Ent × EntR)) : (hdls b off l).map Hdl.x = l.map Prod.fst := by
  refine List.ext_getElem? fun i => ?_
  rw [List.getElem?_map, List.getElem?_map]
  unfold hdls
  rw [List.getElem?_mapIdx]
  cases l[i]? <;> rfl
theorem hdls_there {w : World} {b off : Nat} {l : List (Ent × EntR)} (h : EntsAt w b off l) : ∀ k ∈ hdls b off l, HThere w k := by
  intro k hk
  obtain ⟨i, hi⟩ := List.mem_iff_getElem?.1 hk
  unfold hdls at hi
  rw [List.getElem?_mapIdx] at hi
  obtain ⟨q, hq, rfl⟩ := Option.map_eq_some_iff.1 hi
  exact h i q hq
/-- v holds pointers to the entries hs, in a row of the call's own. -/
def OwnP (w : World) (base : Nat) (v : Value) (hs : List Hdl) : Prop := w.ownsRow base 102 1 v hs.length (hs.map hP)
theorem OwnP.nil (w : World) (base : Nat) : OwnP w base (.slice none 0 0) [] := World.ownsRow_nil _ _ _ _
theorem OwnP.below {w w' : World} {base : Nat} {v : Value} {l : List Hdl} (h : OwnP w base v l) (hb : Below w.heap.size w w') : OwnP w' base v l := by
  obtain ⟨h1, h2⟩ := h
  refine ⟨h1, ?_⟩
  rcases h2 with h2 | ⟨g, c, cur, e, hg, hh, hrest⟩
  · exact .inl h2
  · exact .inr ⟨g, c, cur, e, hg, by rw [hb.block g (Array.getElem?_eq_some_iff.1 hh).1]; exact hh, hrest⟩
theorem OwnP.lower {w : World} {b0 base : Nat} {v : Value} {l : List Hdl} (h : OwnP w base v l) (hb : b0 ≤ base) : OwnP w b0 v l := by
  obtain ⟨h1, h2⟩ := h
  refine ⟨h1, ?_⟩
  rcases h2 with h2 | ⟨g, c, cur, e, hg, hrest⟩
  · exact .inl h2
  · exact .inr ⟨g, c, cur, e, by omega, hrest⟩
theorem OwnP.form {w : World} {base : Nat} {v : Value} {l : List Hdl} (h : OwnP w base v l) : ∃ va vc, v = .slice va l.length vc ∧ l.length ≤ vc ∧ (l = [] ∨ ∃ g, va = some ⟨g, 0, none⟩ ∧ base ≤ g ∧ g < w.heap.size ∧ ∀ (i : Nat) k, l[i]? = some k → w.cell? ⟨g, i, none⟩ = some (hP k)) := by
  have h0 := h
  obtain ⟨_, h1 | ⟨g, c2, cur, rfl, hb, hh, hc2, _⟩⟩ := h
  · have e : l = [] := List.eq_nil_of_length_eq_zero h1.2
    subst e
    exact ⟨none, 0, h1.1, Nat.le_refl _, .inl rfl⟩
  · refine ⟨_, c2, rfl, hc2, .inr ⟨g, rfl, hb, (Array.getElem?_eq_some_iff.1 hh).1, fun i k hk => ?_⟩⟩
    have hi := (List.getElem?_eq_some_iff.1 hk).1
    have c1 := World.ownsRow.cellAt h0 i (by omega)
    rw [c1, List.getElem?_map, hk]
    rfl
theorem own_geP {w : World} {base : Nat} {v : Value} {l : List Hdl} (h : OwnP w base v l) (q : Nat) (hq : v.ownBlock = some q) : base ≤ q := by
  obtain ⟨_, h | ⟨g, c, cur, rfl, hg, _⟩⟩ := h
  · rw [h.1] at hq; cases hq
  · simp only [Value.ownBlock, Option.some.injEq] at hq; omega
theorem row_off {w : World} {base : Nat} {e : TypeId} {size : Nat} {v : Value} {n : Nat} {xs : List Value} (h : w.ownsRow base e size v n xs) {b i : Nat} (u : Value) (hb : b < base) : (w.setCell ⟨b, i, none⟩ u).ownsRow base e size v n xs := by
  obtain ⟨h1, h2⟩ := h
  refine ⟨h1, ?_⟩
  rcases h2 with h2 | ⟨g, c, cur, e', hg, hh, hrest⟩
  · exact .inl h2
  · exact .inr ⟨g, c, cur, e', hg, by rw [heap_setCell_other w ⟨b, i, none⟩ g u (by simp only; omega)]; exact hh, hrest⟩
theorem made_one (z : Value) (hz : z.cells = #[z]) (n : Nat) : (madeCells z.cells (n * 1)).toList = List.replicate n z := by
  rw [hz, Nat.mul_one]
  refine List.ext_getElem? fun i => ?_
  by_cases hi : i < n
  · rw [List.getElem?_replicate_of_lt hi]
    simp [madeCells, hi, Nat.mod_one]
  · rw [List.getElem?_eq_none (by simp [madeCells]; omega), List.getElem?_eq_none (by simp; omega)]
theorem infoPtr : (Tryz.prog.info? 102).map (fun i => (i.zero, i.size, i.bytes)) = some (some (.pointer none), 1, 8) := by kernel_rfl
theorem ptr_one (hs : List Hdl) : ∀ u ∈ hs.map hP, u.oneCell' = true := by
  intro u hu
  obtain ⟨h, _, rfl⟩ := List.mem_map.1 hu
  rfl
theorem set_fill {z : Value} : ∀ (ps : List Value) (k : Nat) (p : Value), ps[k]? = some p → (ps.take k ++ List.replicate (ps.length - k) z).set k p = ps.take (k + 1) ++ List.replicate (ps.length - (k + 1)) z := by
  intro ps k p h
  obtain ⟨hk, rfl⟩ := List.getElem?_eq_some_iff.1 h
  have hlen : (ps.take k).length = k := by simp; omega
  rw [List.set_append_right _ _ (by rw [hlen]; exact Nat.le_refl _), hlen, Nat.sub_self, List.take_succ_eq_append_getElem hk]
  obtain ⟨m, hm⟩ : ∃ m, ps.length - k = m + 1 := ⟨ps.length - k - 1, by omega⟩
  rw [hm, List.replicate_succ, List.set_cons_zero, show ps.length - (k + 1) = m from by omega, List.append_assoc]
  rfl
end Go.Proofs.YtolkgnnjocmkdaaGreatDoor
/-
  An entry that is copied, by the model.
-/
namespace Go.Proofs.YtolkgnnjocmkdaaGreatDoor
open Go.ChangeShapes Go.WideShapes Go.ChangeAt Go.RowKit Go.Sort
/-- An entry whose lists are rows of its own. -/
structure EntRow (w : World) (base : Nat) (x : Ent) (r : EntR) : Prop where
  h : RowH w base (.slice r.ha x.hs.length r.hc) x.hs
  b : RowB w base (.slice r.ba x.bl.length r.bc) x.bl
  t : RowT w base (.slice r.ta x.ts.length r.tc) x.ts
  n1 : r.ha = none ∨ r.ha ≠ r.ba
  n2 : r.ha = none ∨ r.ha ≠ r.ta
  n3 : r.ba = none ∨ r.ba ≠ r.ta
theorem row_off2 {w : World} {base : Nat} {e : TypeId} {size : Nat} {v : Value} {n : Nat} {xs : List Value} (h : w.ownsRow base e size v n xs) {b i : Nat} (u : Value) (hb : b < base) : (w.setCell ⟨b, i, none⟩ u).ownsRow base e size v n xs := row_off h u hb
theorem EntRow.in {w : World} {base : Nat} {x : Ent} {r : EntR} (h : EntRow w base x r) : EntIn w x r := by
  obtain ⟨a1, c1, e1, l1, i1⟩ := h.h.in
  obtain ⟨a2, c2, e2, l2, i2⟩ := h.b.in
  obtain ⟨a3, c3, e3, l3, i3⟩ := h.t.in
  simp only [Value.slice.injEq, true_and] at e1 e2 e3
  obtain ⟨r1, r2⟩ := e1
  obtain ⟨r3, r4⟩ := e2
  obtain ⟨r5, r6⟩ := e3
  exact ⟨r1 ▸ i1, r3 ▸ i2, r5 ▸ i3, by omega, by omega, by omega⟩
theorem EntRow.below {w w' : World} {base : Nat} {x : Ent} {r : EntR} (h : EntRow w base x r) (hb : Below w.heap.size w w') : EntRow w' base x r := ⟨row_below h.h hb, row_below h.b hb, row_below h.t hb, h.n1, h.n2, h.n3⟩
theorem EntRow.lower {w : World} {b0 base : Nat} {x : Ent} {r : EntR} (h : EntRow w base x r) (hb : b0 ≤ base) : EntRow w b0 x r := ⟨row_lower h.h hb, row_lower h.b hb, row_lower h.t hb, h.n1, h.n2, h.n3⟩
theorem EntRow.off1 {w : World} {base : Nat} {x : Ent} {r : EntR} (h : EntRow w base x r) {b i : Nat} (u : Value) (hb : b < base) : EntRow (w.setCell ⟨b, i, none⟩ u) base x r := ⟨row_off h.h u hb, row_off h.b u hb, row_off h.t u hb, h.n1, h.n2, h.n3⟩
theorem row_apart {w w' : World} {b1 b2 : Nat} {e1 e2 : TypeId} {s1 s2 : Nat} {a1 a2 : Option Addr} {n1 n2 c1 c2 : Nat} {x1 x2 : List Value} (h1 : w.ownsRow b1 e1 s1 (.slice a1 n1 c1) n1 x1) (h2 : w'.ownsRow b2 e2 s2 (.slice a2 n2 c2) n2 x2) (hb : w.heap.size ≤ b2) : a1 = none ∨ a1 ≠ a2 := by
  cases a1 with
  | none => exact .inl rfl
  | some p =>
    refine .inr fun e => ?_
    subst e
    have l1 := (World.ownsRow.lt h1 p.block rfl).2
    have l2 := (World.ownsRow.lt h2 p.block rfl).1
    omega
end Go.Proofs.YtolkgnnjocmkdaaGreatDoor
/-
  Fourteen cells that may be written.
-/
namespace Go.Proofs.YtolkgnnjocmkdaaGreatDoor
open Go.ChangeShapes Go.WideShapes Go.ChangeAt Go.RowKit
structure E14 (w : World) (b : Nat) (v0 v1 v2 v3 v4 v5 v6 v7 v8 v9 v10 v11 v12 v13 : Value) : Prop where
  c0 : w.cell? ⟨b, 0, none⟩ = some v0
  c1 : w.cell? ⟨b, 1, none⟩ = some v1
  c2 : w.cell? ⟨b, 2, none⟩ = some v2
  c3 : w.cell? ⟨b, 3, none⟩ = some v3
  c4 : w.cell? ⟨b, 4, none⟩ = some v4
  c5 : w.cell? ⟨b, 5, none⟩ = some v5
  c6 : w.cell? ⟨b, 6, none⟩ = some v6
  c7 : w.cell? ⟨b, 7, none⟩ = some v7
  c8 : w.cell? ⟨b, 8, none⟩ = some v8
  c9 : w.cell? ⟨b, 9, none⟩ = some v9
  c10 : w.cell? ⟨b, 10, none⟩ = some v10
  c11 : w.cell? ⟨b, 11, none⟩ = some v11
  c12 : w.cell? ⟨b, 12, none⟩ = some v12
  c13 : w.cell? ⟨b, 13, none⟩ = some v13
  fr : ∀ o, w.frozen? ⟨b, o, none⟩ = false
  lt : b < w.heap.size
section
variable {w w' : World} {b : Nat} {v0 v1 v2 v3 v4 v5 v6 v7 v8 v9 v10 v11 v12 v13 : Value}
theorem E14.keep (k : E14 w b v0 v1 v2 v3 v4 v5 v6 v7 v8 v9 v10 v11 v12 v13) (hb : Below w.heap.size w w') : E14 w' b v0 v1 v2 v3 v4 v5 v6 v7 v8 v9 v10 v11 v12 v13 :=
  ⟨by rw [hb.cell (p := ⟨b, 0, none⟩) k.lt]; exact k.c0, by rw [hb.cell (p := ⟨b, 1, none⟩) k.lt]; exact k.c1, by rw [hb.cell (p := ⟨b, 2, none⟩) k.lt]; exact k.c2, by rw [hb.cell (p := ⟨b, 3, none⟩) k.lt]; exact k.c3, by rw [hb.cell (p := ⟨b, 4, none⟩) k.lt]; exact k.c4, by rw [hb.cell (p := ⟨b, 5, none⟩) k.lt]; exact k.c5, by rw [hb.cell (p := ⟨b, 6, none⟩) k.lt]; exact k.c6, by rw [hb.cell (p := ⟨b, 7, none⟩) k.lt]; exact k.c7, by rw [hb.cell (p := ⟨b, 8, none⟩) k.lt]; exact k.c8, by rw [hb.cell (p := ⟨b, 9, none⟩) k.lt]; exact k.c9, by rw [hb.cell (p := ⟨b, 10, none⟩) k.lt]; exact k.c10, by rw [hb.cell (p := ⟨b, 11, none⟩) k.lt]; exact k.c11, by rw [hb.cell (p := ⟨b, 12, none⟩) k.lt]; exact k.c12, by rw [hb.cell (p := ⟨b, 13, none⟩) k.lt]; exact k.c13, fun o => by rw [hb.frozen (p := ⟨b, o, none⟩) k.lt]; exact k.fr o, Nat.lt_of_lt_of_le k.lt hb.size⟩
theorem E14.new (w : World) (v0 v1 v2 v3 v4 v5 v6 v7 v8 v9 v10 v11 v12 v13 : Value) (t : TypeId) : E14 (w.alloc (.cells #[v0, v1, v2, v3, v4, v5, v6, v7, v8, v9, v10, v11, v12, v13] t)) w.heap.size v0 v1 v2 v3 v4 v5 v6 v7 v8 v9 v10 v11 v12 v13 := ⟨by simp, by simp, by simp, by simp, by simp, by simp, by simp, by simp, by simp, by simp, by simp, by simp, by simp, by simp, fun o => by simp, by simp⟩
theorem E14.off (k : E14 w b v0 v1 v2 v3 v4 v5 v6 v7 v8 v9 v10 v11 v12 v13) {B i : Nat} {x : Value} (h : B ≠ b) : E14 (w.setCell ⟨B, i, none⟩ x) b v0 v1 v2 v3 v4 v5 v6 v7 v8 v9 v10 v11 v12 v13 := by
  have ne : ∀ o : Nat, (⟨B, i, none⟩ : Addr) ≠ ⟨b, o, none⟩ := fun o q => h (congrArg Addr.block q)
  exact ⟨by rw [World.cell?_setCell_other _ _ _ _ (ne _)]; exact k.c0, by rw [World.cell?_setCell_other _ _ _ _ (ne _)]; exact k.c1, by rw [World.cell?_setCell_other _ _ _ _ (ne _)]; exact k.c2, by rw [World.cell?_setCell_other _ _ _ _ (ne _)]; exact k.c3, by rw [World.cell?_setCell_other _ _ _ _ (ne _)]; exact k.c4, by rw [World.cell?_setCell_other _ _ _ _ (ne _)]; exact k.c5, by rw [World.cell?_setCell_other _ _ _ _ (ne _)]; exact k.c6, by rw [World.cell?_setCell_other _ _ _ _ (ne _)]; exact k.c7, by rw [World.cell?_setCell_other _ _ _ _ (ne _)]; exact k.c8, by rw [World.cell?_setCell_other _ _ _ _ (ne _)]; exact k.c9, by rw [World.cell?_setCell_other _ _ _ _ (ne _)]; exact k.c10, by rw [World.cell?_setCell_other _ _ _ _ (ne _)]; exact k.c11, by rw [World.cell?_setCell_other _ _ _ _ (ne _)]; exact k.c12, by rw [World.cell?_setCell_other _ _ _ _ (ne _)]; exact k.c13, fun o => by rw [World.frozen?_setCell]; exact k.fr o, by simpa using k.lt⟩
theorem E14.set0 (k : E14 w b v0 v1 v2 v3 v4 v5 v6 v7 v8 v9 v10 v11 v12 v13) (x : Value) : E14 (w.setCell ⟨b, 0, none⟩ x) b x v1 v2 v3 v4 v5 v6 v7 v8 v9 v10 v11 v12 v13 :=
  ⟨World.cell?_setCell_same _ _ _ k.c0, by rw [World.cell?_setCell_other _ _ _ _ (by intro q; have := congrArg Addr.off q; simp at this)]; exact k.c1, by rw [World.cell?_setCell_other _ _ _ _ (by intro q; have := congrArg Addr.off q; simp at this)]; exact k.c2, by rw [World.cell?_setCell_other _ _ _ _ (by intro q; have := congrArg Addr.off q; simp at this)]; exact k.c3, by rw [World.cell?_setCell_other _ _ _ _ (by intro q; have := congrArg Addr.off q; simp at this)]; exact k.c4, by rw [World.cell?_setCell_other _ _ _ _ (by intro q; have := congrArg Addr.off q; simp at this)]; exact k.c5, by rw [World.cell?_setCell_other _ _ _ _ (by intro q; have := congrArg Addr.off q; simp at this)]; exact k.c6, by rw [World.cell?_setCell_other _ _ _ _ (by intro q; have := congrArg Addr.off q; simp at this)]; exact k.c7, by rw [World.cell?_setCell_other _ _ _ _ (by intro q; have := congrArg Addr.off q; simp at this)]; exact k.c8, by rw [World.cell?_setCell_other _ _ _ _ (by intro q; have := congrArg Addr.off q; simp at this)]; exact k.c9, by rw [World.cell?_setCell_other _ _ _ _ (by intro q; have := congrArg Addr.off q; simp at this)]; exact k.c10, by rw [World.cell?_setCell_other _ _ _ _ (by intro q; have := congrArg Addr.off q; simp at this)]; exact k.c11, by rw [World.cell?_setCell_other _ _ _ _ (by intro q; have := congrArg Addr.off q; simp at this)]; exact k.c12, by rw [World.cell?_setCell_other _ _ _ _ (by intro q; have := congrArg Addr.off q; simp at this)]; exact k.c13, fun o => by rw [World.frozen?_setCell]; exact k.fr o, by simpa using k.lt⟩
theorem E14.set1 (k : E14 w b v0 v1 v2 v3 v4 v5 v6 v7 v8 v9 v10 v11 v12 v13) (x : Value) : E14 (w.setCell ⟨b, 1, none⟩ x) b v0 x v2 v3 v4 v5 v6 v7 v8 v9 v10 v11 v12 v13 :=
  ⟨by rw [World.cell?_setCell_other _ _ _ _ (by intro q; have := congrArg Addr.off q; simp at this)]; exact k.c0, World.cell?_setCell_same _ _ _ k.c1, by rw [World.cell?_setCell_other _ _ _ _ (by intro q; have := congrArg Addr.off q; simp at this)]; exact k.c2, by rw [World.cell?_setCell_other _ _ _ _ (by intro q; have := congrArg Addr.off q; simp at this)]; exact k.c3, by rw [World.cell?_setCell_other _ _ _ _ (by intro q; have := congrArg Addr.off q; simp at this)]; exact k.c4, by rw [World.cell?_setCell_other _ _ _ _ (by intro q; have := congrArg Addr.off q; simp at this)]; exact k.c5, by rw [World.cell?_setCell_other _ _ _ _ (by intro q; have := congrArg Addr.off q; simp at this)]; exact k.c6, by rw [World.cell?_setCell_other _ _ _ _ (by intro q; have := congrArg Addr.off q; simp at this)]; exact k.c7, by rw [World.cell?_setCell_other _ _ _ _ (by intro q; have := congrArg Addr.off q; simp at this)]; exact k.c8, by rw [World.cell?_setCell_other _ _ _ _ (by intro q; have := congrArg Addr.off q; simp at this)]; exact k.c9, by rw [World.cell?_setCell_other _ _ _ _ (by intro q; have := congrArg Addr.off q; simp at this)]; exact k.c10, by rw [World.cell?_setCell_other _ _ _ _ (by intro q; have := congrArg Addr.off q; simp at this)]; exact k.c11, by rw [World.cell?_setCell_other _ _ _ _ (by intro q; have := congrArg Addr.off q; simp at this)]; exact k.c12, by rw [World.cell?_setCell_other _ _ _ _ (by intro q; have := congrArg Addr.off q; simp at this)]; exact k.c13, fun o => by rw [World.frozen?_setCell]; exact k.fr o, by simpa using k.lt⟩
theorem E14.set2 (k : E14 w b v0 v1 v2 v3 v4 v5 v6 v7 v8 v9 v10 v11 v12 v13) (x : Value) : E14 (w.setCell ⟨b, 2, none⟩ x) b v0 v1 x v3 v4 v5 v6 v7 v8 v9 v10 v11 v12 v13 :=
  ⟨by rw [World.cell?_setCell_other _ _ _ _ (by intro q; have := congrArg Addr.off q; simp at this)]; exact k.c0, by rw [World.cell?_setCell_other _ _ _ _ (by intro q; have := congrArg Addr.off q; simp at this)]; exact k.c1, World.cell?_setCell_same _ _ _ k.c2, by rw [World.cell?_setCell_other _ _ _ _ (by intro q; have := congrArg Addr.off q; simp at this)]; exact k.c3, by rw [World.cell?_setCell_other _ _ _ _ (by intro q; have := congrArg Addr.off q; simp at this)]; exact k.c4, by rw [World.cell?_setCell_other _ _ _ _ (by intro q; have := congrArg Addr.off q; simp at this)]; exact k.c5, by rw [World.cell?_setCell_other _ _ _ _ (by intro q; have := congrArg Addr.off q; simp at this)]; exact k.c6, by rw [World.cell?_setCell_other _ _ _ _ (by intro q; have := congrArg Addr.off q; simp at this)]; exact k.c7, by rw [World.cell?_setCell_other _ _ _ _ (by intro q; have := congrArg Addr.off q; simp at this)]; exact k.c8, by rw [World.cell?_setCell_other _ _ _ _ (by intro q; have := congrArg Addr.off q; simp at this)]; exact k.c9, by rw [World.cell?_setCell_other _ _ _ _ (by intro q; have := congrArg Addr.off q; simp at this)]; exact k.c10, by rw [World.cell?_setCell_other _ _ _ _ (by intro q; have := congrArg Addr.off q; simp at this)]; exact k.c11, by rw [World.cell?_setCell_other _ _ _ _ (by intro q; have := congrArg Addr.off q; simp at this)]; exact k.c12, by rw [World.cell?_setCell_other _ _ _ _ (by intro q; have := congrArg Addr.off q; simp at this)]; exact k.c13, fun o => by rw [World.frozen?_setCell]; exact k.fr o, by simpa using k.lt⟩
theorem E14.set3 (k : E14 w b v0 v1 v2 v3 v4 v5 v6 v7 v8 v9 v10 v11 v12 v13) (x : Value) : E14 (w.setCell ⟨b, 3, none⟩ x) b v0 v1 v2 x v4 v5 v6 v7 v8 v9 v10 v11 v12 v13 :=
  ⟨by rw [World.cell?_setCell_other _ _ _ _ (by intro q; have := congrArg Addr.off q; simp at this)]; exact k.c0, by rw [World.cell?_setCell_other _ _ _ _ (by intro q; have := congrArg Addr.off q; simp at this)]; exact k.c1, by rw [World.cell?_setCell_other _ _ _ _ (by intro q; have := congrArg Addr.off q; simp at this)]; exact k.c2, World.cell?_setCell_same _ _ _ k.c3, by rw [World.cell?_setCell_other _ _ _ _ (by intro q; have := congrArg Addr.off q; simp at this)]; exact k.c4, by rw [World.cell?_setCell_other _ _ _ _ (by intro q; have := congrArg Addr.off q; simp at this)]; exact k.c5, by rw [World.cell?_setCell_other _ _ _ _ (by intro q; have := congrArg Addr.off q; simp at this)]; exact k.c6, by rw [World.cell?_setCell_other _ _ _ _ (by intro q; have := congrArg Addr.off q; simp at this)]; exact k.c7, by rw [World.cell?_setCell_other _ _ _ _ (by intro q; have := congrArg Addr.off q; simp at this)]; exact k.c8, by rw [World.cell?_setCell_other _ _ _ _ (by intro q; have := congrArg Addr.off q; simp at this)]; exact k.c9, by rw [World.cell?_setCell_other _ _ _ _ (by intro q; have := congrArg Addr.off q; simp at this)]; exact k.c10, by rw [World.cell?_setCell_other _ _ _ _ (by intro q; have := congrArg Addr.off q; simp at this)]; exact k.c11, by rw [World.cell?_setCell_other _ _ _ _ (by intro q; have := congrArg Addr.off q; simp at this)]; exact k.c12, by rw [World.cell?_setCell_other _ _ _ _ (by intro q; have := congrArg Addr.off q; simp at this)]; exact k.c13, fun o => by rw [World.frozen?_setCell]; exact k.fr o, by simpa using k.lt⟩
theorem E14.set4 (k : E14 w b v0 v1 v2 v3 v4 v5 v6 v7 v8 v9 v10 v11 v12 v13) (x : Value) : E14 (w.setCell ⟨b, 4, none⟩ x) b v0 v1 v2 v3 x v5 v6 v7 v8 v9 v10 v11 v12 v13 :=
  ⟨by rw [World.cell?_setCell_other _ _ _ _ (by intro q; have := congrArg Addr.off q; simp at this)]; exact k.c0, by rw [World.cell?_setCell_other _ _ _ _ (by intro q; have := congrArg Addr.off q; simp at this)]; exact k.c1, by rw [World.cell?_setCell_other _ _ _ _ (by intro q; have := congrArg Addr.off q; simp at this)]; exact k.c2, by rw [World.cell?_setCell_other _ _ _ _ (by intro q; have := congrArg Addr.off q; simp at this)]; exact k.c3, World.cell?_setCell_same _ _ _ k.c4, by rw [World.cell?_setCell_other _ _ _ _ (by intro q; have := congrArg Addr.off q; simp at this)]; exact k.c5, by rw [World.cell?_setCell_other _ _ _ _ (by intro q; have := congrArg Addr.off q; simp at this)]; exact k.c6, by rw [World.cell?_setCell_other _ _ _ _ (by intro q; have := congrArg Addr.off q; simp at this)]; exact k.c7, by rw [World.cell?_setCell_other _ _ _ _ (by intro q; have := congrArg Addr.off q; simp at this)]; exact k.c8, by rw [World.cell?_setCell_other _ _ _ _ (by intro q; have := congrArg Addr.off q; simp at this)]; exact k.c9, by rw [World.cell?_setCell_other _ _ _ _ (by intro q; have := congrArg Addr.off q; simp at this)]; exact k.c10, by rw [World.cell?_setCell_other _ _ _ _ (by intro q; have := congrArg Addr.off q; simp at this)]; exact k.c11, by rw [World.cell?_setCell_other _ _ _ _ (by intro q; have := congrArg Addr.off q; simp at this)]; exact k.c12, by rw [World.cell?_setCell_other _ _ _ _ (by intro q; have := congrArg Addr.off q; simp at this)]; exact k.c13, fun o => by rw [World.frozen?_setCell]; exact k.fr o, by simpa using k.lt⟩
theorem E14.set5 (k : E14 w b v0 v1 v2 v3 v4 v5 v6 v7 v8 v9 v10 v11 v12 v13) (x : Value) : E14 (w.setCell ⟨b, 5, none⟩ x) b v0 v1 v2 v3 v4 x v6 v7 v8 v9 v10 v11 v12 v13 :=
  ⟨by rw [World.cell?_setCell_other _ _ _ _ (by intro q; have := congrArg Addr.off q; simp at this)]; exact k.c0, by rw [World.cell?_setCell_other _ _ _ _ (by intro q; have := congrArg Addr.off q; simp at this)]; exact k.c1, by rw [World.cell?_setCell_other _ _ _ _ (by intro q; have := congrArg Addr.off q; simp at this)]; exact k.c2, by rw [World.cell?_setCell_other _ _ _ _ (by intro q; have := congrArg Addr.off q; simp at this)]; exact k.c3, by rw [World.cell?_setCell_other _ _ _ _ (by intro q; have := congrArg Addr.off q; simp at this)]; exact k.c4, World.cell?_setCell_same _ _ _ k.c5, by rw [World.cell?_setCell_other _ _ _ _ (by intro q; have := congrArg Addr.off q; simp at this)]; exact k.c6, by rw [World.cell?_setCell_other _ _ _ _ (by intro q; have := congrArg Addr.off q; simp at this)]; exact k.c7, by rw [World.cell?_setCell_other _ _ _ _ (by intro q; have := congrArg Addr.off q; simp at this)]; exact k.c8, by rw [World.cell?_setCell_other _ _ _ _ (by intro q; have := congrArg Addr.off q; simp at this)]; exact k.c9, by rw [World.cell?_setCell_other _ _ _ _ (by intro q; have := congrArg Addr.off q; simp at this)]; exact k.c10, by rw [World.cell?_setCell_other _ _ _ _ (by intro q; have := congrArg Addr.off q; simp at this)]; exact k.c11, by rw [World.cell?_setCell_other _ _ _ _ (by intro q; have := congrArg Addr.off q; simp at this)]; exact k.c12, by rw [World.cell?_setCell_other _ _ _ _ (by intro q; have := congrArg Addr.off q; simp at this)]; exact k.c13, fun o => by rw [World.frozen?_setCell]; exact k.fr o, by simpa using k.lt⟩
theorem E14.set6 (k : E14 w b v0 v1 v2 v3 v4 v5 v6 v7 v8 v9 v10 v11 v12 v13) (x : Value) : E14 (w.setCell ⟨b, 6, none⟩ x) b v0 v1 v2 v3 v4 v5 x v7 v8 v9 v10 v11 v12 v13 :=
  ⟨by rw [World.cell?_setCell_other _ _ _ _ (by intro q; have := congrArg Addr.off q; simp at this)]; exact k.c0, by rw [World.cell?_setCell_other _ _ _ _ (by intro q; have := congrArg Addr.off q; simp at this)]; exact k.c1, by rw [World.cell?_setCell_other _ _ _ _ (by intro q; have := congrArg Addr.off q; simp at this)]; exact k.c2, by rw [World.cell?_setCell_other _ _ _ _ (by intro q; have := congrArg Addr.off q; simp at this)]; exact k.c3, by rw [World.cell?_setCell_other _ _ _ _ (by intro q; have := congrArg Addr.off q; simp at this)]; exact k.c4, by rw [World.cell?_setCell_other _ _ _ _ (by intro q; have := congrArg Addr.off q; simp at this)]; exact k.c5, World.cell?_setCell_same _ _ _ k.c6, by rw [World.cell?_setCell_other _ _ _ _ (by intro q; have := congrArg Addr.off q; simp at this)]; exact k.c7, by rw [World.cell?_setCell_other _ _ _ _ (by intro q; have := congrArg Addr.off q; simp at this)]; exact k.c8, by rw [World.cell?_setCell_other _ _ _ _ (by intro q; have := congrArg Addr.off q; simp at this)]; exact k.c9, by rw [World.cell?_setCell_other _ _ _ _ (by intro q; have := congrArg Addr.off q; simp at this)]; exact k.c10, by rw [World.cell?_setCell_other _ _ _ _ (by intro q; have := congrArg Addr.off q; simp at this)]; exact k.c11, by rw [World.cell?_setCell_other _ _ _ _ (by intro q; have := congrArg Addr.off q; simp at this)]; exact k.c12, by rw [World.cell?_setCell_other _ _ _ _ (by intro q; have := congrArg Addr.off q; simp at this)]; exact k.c13, fun o => by rw [World.frozen?_setCell]; exact k.fr o, by simpa using k.lt⟩
theorem E14.set7 (k : E14 w b v0 v1 v2 v3 v4 v5 v6 v7 v8 v9 v10 v11 v12 v13) (x : Value) : E14 (w.setCell ⟨b, 7, none⟩ x) b v0 v1 v2 v3 v4 v5 v6 x v8 v9 v10 v11 v12 v13 :=
  ⟨by rw [World.cell?_setCell_other _ _ _ _ (by intro q; have := congrArg Addr.off q; simp at this)]; exact k.c0, by rw [World.cell?_setCell_other _ _ _ _ (by intro q; have := congrArg Addr.off q; simp at this)]; exact k.c1, by rw [World.cell?_setCell_other _ _ _ _ (by intro q; have := congrArg Addr.off q; simp at this)]; exact k.c2, by rw [World.cell?_setCell_other _ _ _ _ (by intro q; have := congrArg Addr.off q; simp at this)]; exact k.c3, by rw [World.cell?_setCell_other _ _ _ _ (by intro q; have := congrArg Addr.off q; simp at this)]; exact k.c4, by rw [World.cell?_setCell_other _ _ _ _ (by intro q; have := congrArg Addr.off q; simp at this)]; exact k.c5, by rw [World.cell?_setCell_other _ _ _ _ (by intro q; have := congrArg Addr.off q; simp at this)]; exact k.c6, World.cell?_setCell_same _ _ _ k.c7, by rw [World.cell?_setCell_other _ _ _ _ (by intro q; have := congrArg Addr.off q; simp at this)]; exact k.c8, by rw [World.cell?_setCell_other _ _ _ _ (by intro q; have := congrArg Addr.off q; simp at this)]; exact k.c9, by rw [World.cell?_setCell_other _ _ _ _ (by intro q; have := congrArg Addr.off q; simp at this)]; exact k.c10, by rw [World.cell?_setCell_other _ _ _ _ (by intro q; have := congrArg Addr.off q; simp at this)]; exact k.c11, by rw [World.cell?_setCell_other _ _ _ _ (by intro q; have := congrArg Addr.off q; simp at this)]; exact k.c12, by rw [World.cell?_setCell_other _ _ _ _ (by intro q; have := congrArg Addr.off q; simp at this)]; exact k.c13, fun o => by rw [World.frozen?_setCell]; exact k.fr o, by simpa using k.lt⟩
theorem E14.set8 (k : E14 w b v0 v1 v2 v3 v4 v5 v6 v7 v8 v9 v10 v11 v12 v13) (x : Value) : E14 (w.setCell ⟨b, 8, none⟩ x) b v0 v1 v2 v3 v4 v5 v6 v7 x v9 v10 v11 v12 v13 :=
  ⟨by rw [World.cell?_setCell_other _ _ _ _ (by intro q; have := congrArg Addr.off q; simp at this)]; exact k.c0, by rw [World.cell?_setCell_other _ _ _ _ (by intro q; have := congrArg Addr.off q; simp at this)]; exact k.c1, by rw [World.cell?_setCell_other _ _ _ _ (by intro q; have := congrArg Addr.off q; simp at this)]; exact k.c2, by rw [World.cell?_setCell_other _ _ _ _ (by intro q; have := congrArg Addr.off q; simp at this)]; exact k.c3, by rw [World.cell?_setCell_other _ _ _ _ (by intro q; have := congrArg Addr.off q; simp at this)]; exact k.c4, by rw [World.cell?_setCell_other _ _ _ _ (by intro q; have := congrArg Addr.off q; simp at this)]; exact k.c5, by rw [World.cell?_setCell_other _ _ _ _ (by intro q; have := congrArg Addr.off q; simp at this)]; exact k.c6, by rw [World.cell?_setCell_other _ _ _ _ (by intro q; have := congrArg Addr.off q; simp at this)]; exact k.c7, World.cell?_setCell_same _ _ _ k.c8, by rw [World.cell?_setCell_other _ _ _ _ (by intro q; have := congrArg Addr.off q; simp at this)]; exact k.c9, by rw [World.cell?_setCell_other _ _ _ _ (by intro q; have := congrArg Addr.off q; simp at this)]; exact k.c10, by rw [World.cell?_setCell_other _ _ _ _ (by intro q; have := congrArg Addr.off q; simp at this)]; exact k.c11, by rw [World.cell?_setCell_other _ _ _ _ (by intro q; have := congrArg Addr.off q; simp at this)]; exact k.c12, by rw [World.cell?_setCell_other _ _ _ _ (by intro q; have := congrArg Addr.off q; simp at this)]; exact k.c13, fun o => by rw [World.frozen?_setCell]; exact k.fr o, by simpa using k.lt⟩
theorem E14.set9 (k : E14 w b v0 v1 v2 v3 v4 v5 v6 v7 v8 v9 v10 v11 v12 v13) (x : Value) : E14 (w.setCell ⟨b, 9, none⟩ x) b v0 v1 v2 v3 v4 v5 v6 v7 v8 x v10 v11 v12 v13 :=
  ⟨by rw [World.cell?_setCell_other _ _ _ _ (by intro q; have := congrArg Addr.off q; simp at this)]; exact k.c0, by rw [World.cell?_setCell_other _ _ _ _ (by intro q; have := congrArg Addr.off q; simp at this)]; exact k.c1, by rw [World.cell?_setCell_other _ _ _ _ (by intro q; have := congrArg Addr.off q; simp at this)]; exact k.c2, by rw [World.cell?_setCell_other _ _ _ _ (by intro q; have := congrArg Addr.off q; simp at this)]; exact k.c3, by rw [World.cell?_setCell_other _ _ _ _ (by intro q; have := congrArg Addr.off q; simp at this)]; exact k.c4, by rw [World.cell?_setCell_other _ _ _ _ (by intro q; have := congrArg Addr.off q; simp at this)]; exact k.c5, by rw [World.cell?_setCell_other _ _ _ _ (by intro q; have := congrArg Addr.off q; simp at this)]; exact k.c6, by rw [World.cell?_setCell_other _ _ _ _ (by intro q; have := congrArg Addr.off q; simp at this)]; exact k.c7, by rw [World.cell?_setCell_other _ _ _ _ (by intro q; have := congrArg Addr.off q; simp at this)]; exact k.c8, World.cell?_setCell_same _ _ _ k.c9, by rw [World.cell?_setCell_other _ _ _ _ (by intro q; have := congrArg Addr.off q; simp at this)]; exact k.c10, by rw [World.cell?_setCell_other _ _ _ _ (by intro q; have := congrArg Addr.off q; simp at this)]; exact k.c11, by rw [World.cell?_setCell_other _ _ _ _ (by intro q; have := congrArg Addr.off q; simp at this)]; exact k.c12, by rw [World.cell?_setCell_other _ _ _ _ (by intro q; have := congrArg Addr.off q; simp at this)]; exact k.c13, fun o => by rw [World.frozen?_setCell]; exact k.fr o, by simpa using k.lt⟩
theorem E14.set10 (k : E14 w b v0 v1 v2 v3 v4 v5 v6 v7 v8 v9 v10 v11 v12 v13) (x : Value) : E14 (w.setCell ⟨b, 10, none⟩ x) b v0 v1 v2 v3 v4 v5 v6 v7 v8 v9 x v11 v12 v13 :=
  ⟨by rw [World.cell?_setCell_other _ _ _ _ (by intro q; have := congrArg Addr.off q; simp at this)]; exact k.c0, by rw [World.cell?_setCell_other _ _ _ _ (by intro q; have := congrArg Addr.off q; simp at this)]; exact k.c1, by rw [World.cell?_setCell_other _ _ _ _ (by intro q; have := congrArg Addr.off q; simp at this)]; exact k.c2, by rw [World.cell?_setCell_other _ _ _ _ (by intro q; have := congrArg Addr.off q; simp at this)]; exact k.c3, by rw [World.cell?_setCell_other _ _ _ _ (by intro q; have := congrArg Addr.off q; simp at this)]; exact k.c4, by rw [World.cell?_setCell_other _ _ _ _ (by intro q; have := congrArg Addr.off q; simp at this)]; exact k.c5, by rw [World.cell?_setCell_other _ _ _ _ (by intro q; have := congrArg Addr.off q; simp at this)]; exact k.c6, by rw [World.cell?_setCell_other _ _ _ _ (by intro q; have := congrArg Addr.off q; simp at this)]; exact k.c7, by rw [World.cell?_setCell_other _ _ _ _ (by intro q; have := congrArg Addr.off q; simp at this)]; exact k.c8, by rw [World.cell?_setCell_other _ _ _ _ (by intro q; have := congrArg Addr.off q; simp at this)]; exact k.c9, World.cell?_setCell_same _ _ _ k.c10, by rw [World.cell?_setCell_other _ _ _ _ (by intro q; have := congrArg Addr.off q; simp at this)]; exact k.c11, by rw [World.cell?_setCell_other _ _ _ _ (by intro q; have := congrArg Addr.off q; simp at this)]; exact k.c12, by rw [World.cell?_setCell_other _ _ _ _ (by intro q; have := congrArg Addr.off q; simp at this)]; exact k.c13, fun o => by rw [World.frozen?_setCell]; exact k.fr o, by simpa using k.lt⟩
theorem E14.set11 (k : E14 w b v0 v1 v2 v3 v4 v5 v6 v7 v8 v9 v10 v11 v12 v13) (x : Value) : E14 (w.setCell ⟨b, 11, none⟩ x) b v0 v1 v2 v3 v4 v5 v6 v7 v8 v9 v10 x v12 v13 :=
  ⟨by rw [World.cell?_setCell_other _ _ _ _ (by intro q; have := congrArg Addr.off q; simp at this)]; exact k.c0, by rw [World.cell?_setCell_other _ _ _ _ (by intro q; have := congrArg Addr.off q; simp at this)]; exact k.c1, by rw [World.cell?_setCell_other _ _ _ _ (by intro q; have := congrArg Addr.off q; simp at this)]; exact k.c2, by rw [World.cell?_setCell_other _ _ _ _ (by intro q; have := congrArg Addr.off q; simp at this)]; exact k.c3, by rw [World.cell?_setCell_other _ _ _ _ (by intro q; have := congrArg Addr.off q; simp at this)]; exact k.c4, by rw [World.cell?_setCell_other _ _ _ _ (by intro q; have := congrArg Addr.off q; simp at this)]; exact k.c5, by rw [World.cell?_setCell_other _ _ _ _ (by intro q; have := congrArg Addr.off q; simp at this)]; exact k.c6, by rw [World.cell?_setCell_other _ _ _ _ (by intro q; have := congrArg Addr.off q; simp at this)]; exact k.c7, by rw [World.cell?_setCell_other _ _ _ _ (by intro q; have := congrArg Addr.off q; simp at this)]; exact k.c8, by rw [World.cell?_setCell_other _ _ _ _ (by intro q; have := congrArg Addr.off q; simp at this)]; exact k.c9, by rw [World.cell?_setCell_other _ _ _ _ (by intro q; have := congrArg Addr.off q; simp at this)]; exact k.c10, World.cell?_setCell_same _ _ _ k.c11, by rw [World.cell?_setCell_other _ _ _ _ (by intro q; have := congrArg Addr.off q; simp at this)]; exact k.c12, by rw [World.cell?_setCell_other _ _ _ _ (by intro q; have := congrArg Addr.off q; simp at this)]; exact k.c13, fun o => by rw [World.frozen?_setCell]; exact k.fr o, by simpa using k.lt⟩
theorem E14.set12 (k : E14 w b v0 v1 v2 v3 v4 v5 v6 v7 v8 v9 v10 v11 v12 v13) (x : Value) : E14 (w.setCell ⟨b, 12, none⟩ x) b v0 v1 v2 v3 v4 v5 v6 v7 v8 v9 v10 v11 x v13 :=
  ⟨by rw [World.cell?_setCell_other _ _ _ _ (by intro q; have := congrArg Addr.off q; simp at this)]; exact k.c0, by rw [World.cell?_setCell_other _ _ _ _ (by intro q; have := congrArg Addr.off q; simp at this)]; exact k.c1, by rw [World.cell?_setCell_other _ _ _ _ (by intro q; have := congrArg Addr.off q; simp at this)]; exact k.c2, by rw [World.cell?_setCell_other _ _ _ _ (by intro q; have := congrArg Addr.off q; simp at this)]; exact k.c3, by rw [World.cell?_setCell_other _ _ _ _ (by intro q; have := congrArg Addr.off q; simp at this)]; exact k.c4, by rw [World.cell?_setCell_other _ _ _ _ (by intro q; have := congrArg Addr.off q; simp at this)]; exact k.c5, by rw [World.cell?_setCell_other _ _ _ _ (by intro q; have := congrArg Addr.off q; simp at this)]; exact k.c6, by rw [World.cell?_setCell_other _ _ _ _ (by intro q; have := congrArg Addr.off q; simp at this)]; exact k.c7, by rw [World.cell?_setCell_other _ _ _ _ (by intro q; have := congrArg Addr.off q; simp at this)]; exact k.c8, by rw [World.cell?_setCell_other _ _ _ _ (by intro q; have := congrArg Addr.off q; simp at this)]; exact k.c9, by rw [World.cell?_setCell_other _ _ _ _ (by intro q; have := congrArg Addr.off q; simp at this)]; exact k.c10, by rw [World.cell?_setCell_other _ _ _ _ (by intro q; have := congrArg Addr.off q; simp at this)]; exact k.c11, World.cell?_setCell_same _ _ _ k.c12, by rw [World.cell?_setCell_other _ _ _ _ (by intro q; have := congrArg Addr.off q; simp at this)]; exact k.c13, fun o => by rw [World.frozen?_setCell]; exact k.fr o, by simpa using k.lt⟩
theorem E14.set13 (k : E14 w b v0 v1 v2 v3 v4 v5 v6 v7 v8 v9 v10 v11 v12 v13) (x : Value) : E14 (w.setCell ⟨b, 13, none⟩ x) b v0 v1 v2 v3 v4 v5 v6 v7 v8 v9 v10 v11 v12 x :=
  ⟨by rw [World.cell?_setCell_other _ _ _ _ (by intro q; have := congrArg Addr.off q; simp at this)]; exact k.c0, by rw [World.cell?_setCell_other _ _ _ _ (by intro q; have := congrArg Addr.off q; simp at this)]; exact k.c1, by rw [World.cell?_setCell_other _ _ _ _ (by intro q; have := congrArg Addr.off q; simp at this)]; exact k.c2, by rw [World.cell?_setCell_other _ _ _ _ (by intro q; have := congrArg Addr.off q; simp at this)]; exact k.c3, by rw [World.cell?_setCell_other _ _ _ _ (by intro q; have := congrArg Addr.off q; simp at this)]; exact k.c4, by rw [World.cell?_setCell_other _ _ _ _ (by intro q; have := congrArg Addr.off q; simp at this)]; exact k.c5, by rw [World.cell?_setCell_other _ _ _ _ (by intro q; have := congrArg Addr.off q; simp at this)]; exact k.c6, by rw [World.cell?_setCell_other _ _ _ _ (by intro q; have := congrArg Addr.off q; simp at this)]; exact k.c7, by rw [World.cell?_setCell_other _ _ _ _ (by intro q; have := congrArg Addr.off q; simp at this)]; exact k.c8, by rw [World.cell?_setCell_other _ _ _ _ (by intro q; have := congrArg Addr.off q; simp at this)]; exact k.c9, by rw [World.cell?_setCell_other _ _ _ _ (by intro q; have := congrArg Addr.off q; simp at this)]; exact k.c10, by rw [World.cell?_setCell_other _ _ _ _ (by intro q; have := congrArg Addr.off q; simp at this)]; exact k.c11, by rw [World.cell?_setCell_other _ _ _ _ (by intro q; have := congrArg Addr.off q; simp at this)]; exact k.c12, World.cell?_setCell_same _ _ _ k.c13, fun o => by rw [World.frozen?_setCell]; exact k.fr o, by simpa using k.lt⟩
end
end Go.Proofs.YtolkgnnjocmkdaaGreatDoor
/-
  All that was there, but for one block, is as it was.
-/
namespace Go.Proofs.YtolkgnnjocmkdaaGreatDoor
open Go.ChangeShapes Go.WideShapes Go.ChangeAt Go.RowKit
/-- All that was there, but for block B, is as it was. -/
structure Apart (B : Nat) (w w' : World) : Prop where
  size : w.heap.size ≤ w'.heap.size
  cell : ∀ b o, b < w.heap.size → b ≠ B → w'.cell? ⟨b, o, none⟩ = w.cell? ⟨b, o, none⟩
  frozen : ∀ b o, b < w.heap.size → b ≠ B → w'.frozen? ⟨b, o, none⟩ = w.frozen? ⟨b, o, none⟩
theorem Apart.refl (B : Nat) (w : World) : Apart B w w := ⟨Nat.le_refl _, fun _ _ _ _ => rfl, fun _ _ _ _ => rfl⟩
theorem Apart.trans {B : Nat} {w w1 w2 : World} (h : Apart B w w1) (k : Apart B w1 w2) : Apart B w w2 :=
  ⟨Nat.le_trans h.size k.size, fun b o hb hn => by rw [k.cell b o (Nat.lt_of_lt_of_le hb h.size) hn, h.cell b o hb hn], fun b o hb hn => by rw [k.frozen b o (Nat.lt_of_lt_of_le hb h.size) hn, h.frozen b o hb hn]⟩
theorem Apart.below {B : Nat} {w w' : World} (h : Below w.heap.size w w') : Apart B w w' :=
  ⟨h.size, fun b o hb _ => h.cell (p := ⟨b, o, none⟩) hb, fun b o hb _ => h.frozen (p := ⟨b, o, none⟩) hb⟩
theorem Apart.alloc (B : Nat) (w : World) (o : Obj) : Apart B w (w.alloc o) := .below ((Below.refl _ _).alloc (Nat.le_refl _) _)
theorem Apart.set (B o : Nat) (w : World) (v : Value) : Apart B w (w.setCell ⟨B, o, none⟩ v) := by
  refine ⟨by simp, fun b o' _ hn => ?_, fun b o' _ hn => ?_⟩
  · rw [World.cell?_setCell_other _ _ _ _ (by intro h; have := congrArg Addr.block h; simp at this; omega)]
  · rw [World.frozen?_setCell]
end Go.Proofs.YtolkgnnjocmkdaaGreatDoor
/-
  markText: a text of its own for each number.
-/
namespace Go.Proofs.YtolkgnnjocmkdaaGreatDoor
open Go.ChangeShapes Go.WideShapes Go.ChangeAt Go.RowKit
def mkD (k : Nat) (o : ByteArray) : ByteArray := if _h : k = 0 then o else mkD (k / 10) ((⟨#[UInt8.ofNat (48 + k % 10)]⟩ : ByteArray) ++ o)
termination_by k
decreasing_by omega
theorem mkD_zero (o : ByteArray) : mkD 0 o = o := by rw [mkD]; simp
theorem mkD_more {k : Nat} (h : k ≠ 0) (o : ByteArray) : mkD k o = mkD (k / 10) ((⟨#[UInt8.ofNat (48 + k % 10)]⟩ : ByteArray) ++ o) := by rw [mkD, dif_neg h]
def mkT (k : Nat) : ByteArray := (⟨#[109]⟩ : ByteArray) ++ mkD k ⟨#[]⟩
theorem one_byteM (c : Int) (x : UInt8) (hx : (x.toNat : Int) = c) (W : World) (B cap : Nat) (hc : W.cell? ⟨B, 0, none⟩ = some (.int .u8 c)) :
    (convert 25 9 (.slice (some ⟨B, 0, none⟩) 1 cap)).run Tryz.prog W = .ok (.string ⟨#[x]⟩) W := by
  have := run_convert_bytes_back (P := Tryz.prog) W 25 9 5 ⟨B, 0, none⟩ cap [x] Tryz.underlying25 Tryz.underlying5 Tryz.underlying9 (fun j hj => by
    obtain rfl : j = 0 := by simp at hj; omega
    simp [Addr.add, hc, hx])
  simpa using this
set_option maxHeartbeats 2000000 in
theorem markText_any (k : Nat) (h0 : 1 ≤ k) (h1 : k ≤ 1000000000000000) (w : World) :
    Calls Tryz.prog 128 #[.int .i64 (k : Int)] w fun e w' => e = .returned (.string (mkT k)) ∧ Below w.heap.size w w' := by
  have HT : Hid (mkT k = (⟨#[109]⟩ : ByteArray) ++ mkD k ⟨#[]⟩) := rfl
  have g : ¬ (k : Int) ≤ 0 := by omega
  go_enter Tryz.func128, Tryz.ntmps128
  go_wp2
  go_loopw [0, 3] (fun x v wr => ∃ (j : Nat) (o : ByteArray), j ≤ k ∧ x = .int .i64 (j : Int) ∧ v = .string o ∧ mkD k ⟨#[]⟩ = mkD j o ∧ o.size + j ≤ k ∧ Below w.heap.size w wr) (fun x _ _ => (intOf x).toNat)
  case atStart => exact ⟨k, ⟨#[]⟩, Nat.le_refl _, rfl, rfl, rfl, by simp [ByteArray.size], Below.refl _ _⟩
  case round =>
    obtain ⟨j, o, hj, rfl, rfl, he, hs, hb⟩ := hrel
    have HE : Hid (mkD k ⟨#[]⟩ = mkD j o) := he
    have KB : Hid (Below w.heap.size w wr) := hb
    clear he hb
    by_cases hj0 : j = 0
    · subst hj0
      have HX : Hid (mkD k ⟨#[]⟩ = o) := by show _ = _; rw [HE.out, mkD_zero]
      have zk : (⟨#[109]⟩ : ByteArray).size = 1 := rfl
      have hadd := fun w => run_string_add_sum (P := Tryz.prog) (w := w) (⟨#[109]⟩ : ByteArray) o (by omega)
      clear zk
      go_wp2_with fail
      go_ret
      exact ⟨ret_str (by rw [HT.out, HX.out]), KB.out⟩
    · have HX : Hid (mkD k ⟨#[]⟩ = mkD (j / 10) ((⟨#[UInt8.ofNat (48 + j % 10)]⟩ : ByteArray) ++ o)) := by show _ = _; rw [HE.out, mkD_more hj0]
      have hcv := one_byteM (48 + (j : Int) % 10) (UInt8.ofNat (48 + j % 10)) (by rw [UInt8.toNat_ofNat_of_lt' (by show 48 + j % 10 < 256; omega)]; omega)
      have zr : (⟨#[UInt8.ofNat (48 + j % 10)]⟩ : ByteArray).size = 1 := rfl
      generalize (⟨#[UInt8.ofNat (48 + j % 10)]⟩ : ByteArray) = r at *
      have zq : (r ++ o).size = 1 + o.size := by rw [ByteArray.size_append, zr]
      have hadd := fun w => run_string_add_sum (P := Tryz.prog) (w := w) r o (by omega)
      generalize r ++ o = q at *
      have g1 : (0 : Int) < (j : Int) := by omega
      have e2 : IntKind.u8.wrap (48 + (j : Int) % 10) = 48 + (j : Int) % 10 := by rw [IntKind.wrap_u8]; omega
      have hj9 : (j : Int) ≤ 1000000000000000 := by omega
      go_wp2_with fail
      go_roundw
      case rel => exact ⟨j / 10, q, by omega, by go_num, rfl, HX.out, by omega, KB.out.alloc KB.out.size _⟩
      case measure => simp [intOf]; omega
end Go.Proofs.YtolkgnnjocmkdaaGreatDoor
/-
  markHeaderS and heldHeaderS: marks laid into head lines, and found again.
-/
namespace Go.Proofs.YtolkgnnjocmkdaaGreatDoor
open Go.ChangeShapes Go.WideShapes Go.ChangeAt Go.RowKit Go.Sort
def mkHR (k : Nat) (j : Nat) : Hdr := ⟨mkT (k + 2 * j), mkT (k + 2 * j + 1)⟩
def mkHL (k n : Nat) : List Hdr := (List.range n).map (mkHR k)
theorem mkHL_len (k n : Nat) : (mkHL k n).length = n := by simp [mkHL]
theorem mkHL_get {k n i : Nat} (h : i < n) : (mkHL k n)[i]? = some (mkHR k i) := by simp [mkHL, h]
theorem hcell_set_same {w : World} {g o : Nat} {u v : Value} (h : w.cell? ⟨g, o, none⟩ = some u) : (w.setCell ⟨g, o, none⟩ v).cell? ⟨g, o, none⟩ = some v := World.cell?_setCell_same _ _ _ h
theorem hcell_set_off {w : World} {g o o' : Nat} {v : Value} (h : o ≠ o') : (w.setCell ⟨g, o', none⟩ v).cell? ⟨g, o, none⟩ = w.cell? ⟨g, o, none⟩ :=
  World.cell?_setCell_other _ _ _ _ (by intro e; have := congrArg Addr.off e; simp at this; omega)
/-- One field of one line written. -/
theorem hput_name {w : World} {g off i : Nat} {L : List Hdr} {r : Hdr} (h : HeadsAt w g off L) (hr : L[i]? = some r) (n : ByteArray) :
    HeadsAt (w.setCell ⟨g, off + i * 2, none⟩ (.string n)) g off (L.set i { r with name := n }) := by
  intro j q hq
  by_cases e : j = i
  · subst e
    have hl := (List.getElem?_eq_some_iff.1 hr).1
    rw [List.getElem?_set_self hl] at hq
    obtain rfl := Option.some.inj hq
    obtain ⟨a, c⟩ := h j r hr
    exact ⟨hcell_set_same a, by rw [hcell_set_off (by omega)]; exact c⟩
  · rw [List.getElem?_set_ne (fun k => e k.symm)] at hq
    obtain ⟨a, c⟩ := h j q hq
    exact ⟨by rw [hcell_set_off (by omega)]; exact a, by rw [hcell_set_off (by omega)]; exact c⟩
theorem hput_value {w : World} {g off i : Nat} {L : List Hdr} {r : Hdr} (h : HeadsAt w g off L) (hr : L[i]? = some r) (n : ByteArray) :
    HeadsAt (w.setCell ⟨g, off + i * 2 + 1, none⟩ (.string n)) g off (L.set i { r with value := n }) := by
  intro j q hq
  by_cases e : j = i
  · subst e
    have hl := (List.getElem?_eq_some_iff.1 hr).1
    rw [List.getElem?_set_self hl] at hq
    obtain rfl := Option.some.inj hq
    obtain ⟨a, c⟩ := h j r hr
    exact ⟨by rw [hcell_set_off (by omega)]; exact a, hcell_set_same c⟩
  · rw [List.getElem?_set_ne (fun k => e k.symm)] at hq
    obtain ⟨a, c⟩ := h j q hq
    exact ⟨by rw [hcell_set_off (by omega)]; exact a, by rw [hcell_set_off (by omega)]; exact c⟩
/-- The state of the marking loop: j lines are marked. -/
structure HMarked (w : World) (g off : Nat) (k n j : Nat) (L : List Hdr) (W : World) : Prop where
  len : L.length = n
  done : ∀ i, i < j → L[i]? = some (mkHR k i)
  items : HeadsAt W g off L
  thaw : ∀ o, W.frozen? ⟨g, o, none⟩ = false
  apart : Apart g w W
  low : Below g w W
  lt : g < W.heap.size
theorem HMarked.below {w : World} {g off k n j : Nat} {L : List Hdr} {W W' : World} (h : HMarked w g off k n j L W) (hb : Below W.heap.size W W') : HMarked w g off k n j L W' :=
  ⟨h.len, h.done, h.items.keep hb, fun o => by rw [hb.frozen (p := ⟨g, o, none⟩) h.lt, h.thaw], h.apart.trans (.below hb), h.low.trans (hb.mono (Nat.le_of_lt h.lt)), Nat.lt_of_lt_of_le h.lt hb.size⟩
theorem HMarked.set {w : World} {g off k n j o : Nat} {L L' : List Hdr} {W : World} {v : Value} (h : HMarked w g off k n j L W) (hl : L'.length = L.length) (hd : ∀ i, i < j → L'[i]? = L[i]?) (hi : HeadsAt (W.setCell ⟨g, o, none⟩ v) g off L') : HMarked w g off k n j L' (W.setCell ⟨g, o, none⟩ v) :=
  ⟨hl.trans h.len, fun i hi => (hd i hi).trans (h.done i hi), hi, fun o => by rw [World.frozen?_setCell, h.thaw], h.apart.trans (.set _ _ _ _), h.low.setCell (Nat.le_refl _) _, by simpa using h.lt⟩
end Go.Proofs.YtolkgnnjocmkdaaGreatDoor
/-
  markHeaderS and heldHeaderS.
-/
namespace Go.Proofs.YtolkgnnjocmkdaaGreatDoor
open Go.ChangeShapes Go.WideShapes Go.ChangeAt Go.RowKit Go.Sort
set_option maxRecDepth 100000 in
set_option maxHeartbeats 4000000 in
theorem markHeaderS_any (w : World) (g off cap n k : Nat) (l : List Hdr) (hn : l.length = n) (hn2 : n ≤ 1048576) (hk0 : 1 ≤ k) (hk1 : k ≤ 100000000000000) (hi : HeadsAt w g off l) (hf : ∀ o, w.frozen? ⟨g, o, none⟩ = false) (hg : g < w.heap.size) :
    Calls Tryz.prog 70 #[.slice (some ⟨g, off, none⟩) n cap, .int .i64 (k : Int)] w fun e w' => e = .returned (.int .i64 ((k + 2 * n : Nat) : Int)) ∧ HeadsAt w' g off (mkHL k n) ∧ Apart g w w' ∧ Below g w w' ∧ ∀ o, w'.frozen? ⟨g, o, none⟩ = false := by
  have HST : Hid (HMarked w g off k n 0 l w) := ⟨hn, fun i h => by omega, hi, hf, .refl _ _, Below.refl _ _, hg⟩
  clear hi hf hg hn
  go_enter Tryz.func70, Tryz.ntmps70
  go_wp2_with fail
  go_loopw [1, 5] (fun x i wr => ∃ (j : Nat) (L : List Hdr), j ≤ n ∧ i = .int .i64 (j : Int) ∧ x = .int .i64 ((k + 2 * j : Nat) : Int) ∧ HMarked w g off k n j L wr) (fun _ i _ => n - (intOf i).toNat)
  case atStart => exact ⟨0, l, Nat.zero_le _, rfl, rfl, HST.out⟩
  case round =>
    obtain ⟨j, L, hj, rfl, rfl, hm⟩ := hrel
    have HM : Hid (HMarked w g off k n j L wr) := hm
    clear hm HST
    by_cases hlt : j < n
    · obtain ⟨r, hr⟩ : ∃ r, L[j]? = some r := ⟨L[j]'(by have := HM.out.len; omega), List.getElem?_eq_getElem _⟩
      have HR : Hid (L[j]? = some r) := hr
      clear hr
      have g0 : (0 : Int) ≤ j := by omega
      have g1 : (j : Int) < n := by omega
      have HT1 : Hid (∀ w, Calls Tryz.prog 128 #[.int .i64 ((k + 2 * j : Nat) : Int)] w fun e w' => e = .returned (.string (mkT (k + 2 * j))) ∧ Below w.heap.size w w') := markText_any (k + 2 * j) (by omega) (by omega)
      go_wp2_with fail
      refine (HT1.out _).mono ?_
      rintro e w1 ⟨rfl, hb1⟩
      have HM1 : Hid (HMarked w g off k n j L w1) := HM.out.below hb1
      clear hb1 HM
      obtain ⟨p1, p3⟩ := HM1.out.items j r HR.out
      have f1 := HM1.out.thaw (off + j * 2)
      have HT2 : Hid (∀ w, Calls Tryz.prog 128 #[.int .i64 ((k : Int) + 2 * j + 1)] w fun e w' => e = .returned (.string (mkT (k + 2 * j + 1))) ∧ Below w.heap.size w w') := by
        have := markText_any (k + 2 * j + 1) (by omega) (by omega)
        rw [show ((k + 2 * j + 1 : Nat) : Int) = (k : Int) + 2 * j + 1 by omega] at this
        exact this
      have hl : Hid (j < L.length) := (List.getElem?_eq_some_iff.1 HR.out).1
      have HM2 := HM1.out.set (L' := L.set j { r with name := mkT (k + 2 * j) }) (by simp) (fun i hi => by rw [List.getElem?_set_ne (by omega)]) (hput_name HM1.out.items HR.out (mkT (k + 2 * j)))
      have HM4 : Hid _ := HM2
      clear HM2 HM1
      go_wp2_with fail
      refine (HT2.out _).mono ?_
      rintro e w2 ⟨rfl, hb2⟩
      have HM5 : Hid (HMarked w g off k n j (L.set j { r with name := mkT (k + 2 * j) }) w2) := HM4.out.below hb2
      clear hb2 HM4 p1 p3 f1
      have hr5 : (L.set j { r with name := mkT (k + 2 * j) })[j]? = some { r with name := mkT (k + 2 * j) } := List.getElem?_set_self hl.out
      obtain ⟨p1, p3⟩ := HM5.out.items j _ hr5
      have f3 := HM5.out.thaw (off + j * 2 + 1)
      have HM6 := HM5.out.set (L' := (L.set j { r with name := mkT (k + 2 * j) }).set j (mkHR k j)) (by simp) (fun i hi => by rw [List.getElem?_set_ne (by omega)]) (by
        have := hput_value HM5.out.items hr5 (mkT (k + 2 * j + 1))
        exact this)
      have HM7 : Hid _ := HM6
      clear HM6 hr5 HM5
      go_wp2_with fail
      go_roundw
      case rel => exact ⟨j + 1, _, by omega, by go_num, by congr 1, HM7.out.len, fun i hi => by
        by_cases e : i = j
        · subst e; exact List.getElem?_set_self (by simpa using hl.out)
        · exact HM7.out.done i (by omega), HM7.out.items, HM7.out.thaw, HM7.out.apart, HM7.out.low, HM7.out.lt⟩
      case measure => simp [intOf]; omega
    · obtain rfl : j = n := by omega
      have HX : Hid (HeadsAt wr g off (mkHL k j)) := by
        have e : L = mkHL k j := by
          apply List.ext_getElem?
          intro i
          by_cases hi : i < j
          · rw [HM.out.done i hi, mkHL_get hi]
          · rw [List.getElem?_eq_none (by have := HM.out.len; omega), List.getElem?_eq_none (by rw [mkHL_len]; omega)]
        show HeadsAt _ _ _ _
        rw [← e]
        exact HM.out.items
      go_wp2_with fail
      go_ret
      exact ⟨rfl, HX.out, HM.out.apart, HM.out.low, HM.out.thaw⟩
set_option maxRecDepth 100000 in
set_option maxHeartbeats 4000000 in
theorem heldHeaderS_any (w : World) (g off cap n k : Nat) (hn2 : n ≤ 1048576) (hk0 : 1 ≤ k) (hk1 : k ≤ 100000000000000) (hi : HeadsAt w g off (mkHL k n)) :
    Calls Tryz.prog 129 #[.slice (some ⟨g, off, none⟩) n cap, .int .i64 (k : Int)] w fun e w' => e = .returned (.int .i64 ((k + 2 * n : Nat) : Int)) ∧ Below w.heap.size w w' := by
  have HI : Hid (HeadsAt w g off (mkHL k n)) := hi
  clear hi
  go_enter Tryz.func129, Tryz.ntmps129
  go_wp2_with fail
  go_loopw [1, 5] (fun x i wr => ∃ (j : Nat), j ≤ n ∧ i = .int .i64 (j : Int) ∧ x = .int .i64 ((k + 2 * j : Nat) : Int) ∧ Below w.heap.size w wr) (fun _ i _ => n - (intOf i).toNat)
  case atStart => exact ⟨0, Nat.zero_le _, rfl, rfl, Below.refl _ _⟩
  case round =>
    obtain ⟨j, hj, rfl, rfl, hb⟩ := hrel
    have KB : Hid (Below w.heap.size w wr) := hb
    clear hb
    by_cases hlt : j < n
    · obtain ⟨p1, p3⟩ := (HI.out.keep KB.out) j _ (mkHL_get hlt)
      have q1 : wr.cell? ⟨g, off + j * 2, none⟩ = some (.string (mkT (k + 2 * j))) := p1
      have q3 : wr.cell? ⟨g, off + j * 2 + 1, none⟩ = some (.string (mkT (k + 2 * j + 1))) := p3
      clear p1 p3
      have g0 : (0 : Int) ≤ j := by omega
      have g1 : (j : Int) < n := by omega
      have HT1 : Hid (∀ w, Calls Tryz.prog 128 #[.int .i64 ((k : Int) + 2 * j)] w fun e w' => e = .returned (.string (mkT (k + 2 * j))) ∧ Below w.heap.size w w') := by
        have := markText_any (k + 2 * j) (by omega) (by omega)
        rw [show ((k + 2 * j : Nat) : Int) = (k : Int) + 2 * j by omega] at this
        exact this
      have HT2 : Hid (∀ w, Calls Tryz.prog 128 #[.int .i64 ((k : Int) + 2 * j + 1)] w fun e w' => e = .returned (.string (mkT (k + 2 * j + 1))) ∧ Below w.heap.size w w') := by
        have := markText_any (k + 2 * j + 1) (by omega) (by omega)
        rw [show ((k + 2 * j + 1 : Nat) : Int) = (k : Int) + 2 * j + 1 by omega] at this
        exact this
      have KC : Hid (wr.cell? ⟨g, off + j * 2 + 1, none⟩ = some (.string (mkT (k + 2 * j + 1)))) := q3
      clear q3
      generalize mkT (k + 2 * j) = t1 at *
      generalize mkT (k + 2 * j + 1) = t2 at *
      have x1 := cell_regrown q1
      clear q1
      have cE : ∀ d os, Calls Tryz.prog 128 #[.int .i64 ((k : Int) + 2 * j)] (grow (redrawn wr d) os) fun e w'' => e = .returned (.string t1) ∧ ∃ p : Regrown, w'' = grow (redrawn wr p.d) p.os := fun d os => Calls.regrown_of (HT1.out _)
      go_wp2_with fail
      refine wp_region_quiet_below (by kernel_rfl) (by kernel_rfl) ?_
      repeat (go_big_quiet_step ((go_at_call 128; exact cE _ _)))
      refine wpQuiet_nil ?_
      intro w2 hw2
      have hb2 : Below wr.heap.size wr w2 := by
        obtain ⟨⟨d, os⟩, rfl⟩ := hw2
        exact below_regrown wr d os
      have KB2 : Hid (Below w.heap.size w w2) := KB.out.trans (hb2.mono KB.out.size)
      have y3 : w2.cell? ⟨g, off + j * 2 + 1, none⟩ = some (.string t2) := by rw [hb2.cell (block_lt_of_cell KC.out), KC.out]
      have x3 := cell_regrown y3
      clear x1 cE hw2 hb2 KB KC y3
      have cF : ∀ d os, Calls Tryz.prog 128 #[.int .i64 ((k : Int) + 2 * j + 1)] (grow (redrawn w2 d) os) fun e w'' => e = .returned (.string t2) ∧ ∃ p : Regrown, w'' = grow (redrawn w2 p.d) p.os := fun d os => Calls.regrown_of (HT2.out _)
      go_wp2_with fail
      refine wp_region_quiet_below (by kernel_rfl) (by kernel_rfl) ?_
      repeat (go_big_quiet_step ((go_at_call 128; exact cF _ _)))
      refine wpQuiet_nil ?_
      intro w3 hw3
      have KB3 : Hid (Below w.heap.size w w3) := by
        obtain ⟨⟨d, os⟩, rfl⟩ := hw3
        exact KB2.out.trans ((below_regrown w2 d os).mono KB2.out.size)
      clear x3 cF hw3 KB2
      go_wp2_with fail
      go_roundw
      case rel => exact ⟨j + 1, by omega, by go_num, by congr 1, KB3.out⟩
      case measure => simp [intOf]; omega
    · obtain rfl : j = n := by omega
      go_wp2_with fail
      go_ret
      exact ⟨rfl, KB.out⟩
end Go.Proofs.YtolkgnnjocmkdaaGreatDoor
/-
  Head lines as a value: compared, marked, held.
-/
namespace Go.Proofs.YtolkgnnjocmkdaaGreatDoor
open Go.ChangeShapes Go.WideShapes Go.ChangeAt Go.RowKit Go.Sort
def HLV (w : World) (v : Value) (l : List Hdr) : Prop :=
  (v = .slice none 0 0 ∧ l = []) ∨ ∃ g cap, v = .slice (some ⟨g, 0, none⟩) l.length cap ∧ g < w.heap.size ∧ HeadsAt w g 0 l ∧ ∀ o, w.frozen? ⟨g, o, none⟩ = false
theorem OwnH.lv {w : World} {base : Nat} {v : Value} {l : List Hdr} (h : OwnH w base v l) : HLV w v l ∧ ∀ b, v.ownBlock = some b → base ≤ b := by
  have h0 := h
  obtain ⟨_, h1 | ⟨g, c, cur, rfl, hg, hh, _⟩⟩ := h
  · have e : l = [] := List.eq_nil_of_length_eq_zero h1.2
    exact ⟨.inl ⟨h1.1, e⟩, fun b hb => by rw [h1.1] at hb; cases hb⟩
  · refine ⟨.inr ⟨g, c, rfl, (Array.getElem?_eq_some_iff.1 hh).1, ?_, fun o => ?_⟩, fun b hb => ?_⟩
    · obtain ⟨a, c', e, hi⟩ := h0.at
      rcases hi with rfl | ⟨b, off, rfl, hat⟩
      · intro i r hr; simp at hr
      · simp only [Value.slice.injEq, Option.some.injEq] at e
        obtain ⟨e, _⟩ := e
        have e1 := congrArg Addr.block e
        have e2 := congrArg Addr.off e
        simp only at e1 e2
        rw [e1, e2]
        exact hat
    · simp [World.frozen?, hh]
    · simp only [Value.ownBlock, Option.some.injEq] at hb; omega
theorem HLV.below {w w' : World} {v : Value} {l : List Hdr} (h : HLV w v l) (hb : Below w.heap.size w w') : HLV w' v l := by
  rcases h with h | ⟨g, c, e, hg, hi, hf⟩
  · exact .inl h
  · exact .inr ⟨g, c, e, Nat.lt_of_lt_of_le hg hb.size, hi.keep hb, fun o => by rw [hb.frozen (p := ⟨g, o, none⟩) hg, hf]⟩
/-- All that was there, but for the memory of v, is as it was. -/
structure HAV (v : Value) (w w' : World) : Prop where
  size : w.heap.size ≤ w'.heap.size
  cell : ∀ b o, b < w.heap.size → v.ownBlock ≠ some b → w'.cell? ⟨b, o, none⟩ = w.cell? ⟨b, o, none⟩
  frozen : ∀ b o, b < w.heap.size → v.ownBlock ≠ some b → w'.frozen? ⟨b, o, none⟩ = w.frozen? ⟨b, o, none⟩
theorem HAV.below {v : Value} {w w' : World} (h : Below w.heap.size w w') : HAV v w w' :=
  ⟨h.size, fun b o hb _ => h.cell (p := ⟨b, o, none⟩) hb, fun b o hb _ => h.frozen (p := ⟨b, o, none⟩) hb⟩
theorem HLV.av {w w' : World} {v v1 : Value} {l : List Hdr} (h : HLV w v1 l) (k : HAV v w w') (hne : ∀ b, v1.ownBlock = some b → v.ownBlock ≠ some b) : HLV w' v1 l := by
  rcases h with h | ⟨g, c, rfl, hg, hi, hf⟩
  · exact .inl h
  · have hn := hne g rfl
    exact .inr ⟨g, c, rfl, Nat.lt_of_lt_of_le hg k.size, fun i r hr => by rw [k.cell g _ hg hn, k.cell g _ hg hn]; exact hi i r hr, fun o => by rw [k.frozen g o hg hn, hf]⟩
set_option maxHeartbeats 1000000 in
theorem eqHeaderS_nil (w : World) (a b : Option Addr) (c d : Nat) :
    Calls Tryz.prog 66 #[.slice a 0 c, .slice b 0 d] w fun e w' => e = .returned (.bool true) ∧ Below w.heap.size w w' := by
  go_enter Tryz.func66, Tryz.ntmps66
  go_wp2_with fail
  go_loop [5] (fun i => i = .int .i64 0) (fun _ => 0)
  case atStart => rfl
  case round =>
    obtain rfl := hrel
    go_wp2_with fail
    go_ret
    exact ⟨rfl, Below.refl _ _⟩
theorem eqHeaderS_lv (w : World) (v1 v2 : Value) (l : List Hdr) (hl : l.length ≤ 1048576) (h1 : HLV w v1 l) (h2 : HLV w v2 l) :
    Calls Tryz.prog 66 #[v1, v2] w fun e w' => e = .returned (.bool true) ∧ Below w.heap.size w w' := by
  rcases h1 with ⟨rfl, rfl⟩ | ⟨g, c, rfl, _, hi, _⟩
  · rcases h2 with ⟨rfl, _⟩ | ⟨g, c, rfl, _, _, _⟩
    · exact eqHeaderS_nil w _ _ _ _
    · exact eqHeaderS_nil w _ _ _ _
  · rcases h2 with ⟨rfl, rfl⟩ | ⟨g', c', rfl, _, hi', _⟩
    · exact eqHeaderS_nil w _ _ _ _
    · exact eqHeaderS_same w g 0 g' 0 c c' l hl hi hi'
set_option maxHeartbeats 1000000 in
theorem markHeaderS_nil (w : World) (a : Option Addr) (c k : Nat) :
    Calls Tryz.prog 70 #[.slice a 0 c, .int .i64 (k : Int)] w fun e w' => e = .returned (.int .i64 (k : Int)) ∧ Below w.heap.size w w' := by
  go_enter Tryz.func70, Tryz.ntmps70
  go_wp2_with fail
  go_loop [1, 5] (fun x i => x = .int .i64 (k : Int) ∧ i = .int .i64 0) (fun _ _ => 0)
  case atStart => exact ⟨rfl, rfl⟩
  case round =>
    obtain ⟨rfl, rfl⟩ := hrel
    go_wp2_with fail
    go_ret
    exact ⟨rfl, Below.refl _ _⟩
set_option maxHeartbeats 1000000 in
theorem heldHeaderS_nil (w : World) (a : Option Addr) (c k : Nat) :
    Calls Tryz.prog 129 #[.slice a 0 c, .int .i64 (k : Int)] w fun e w' => e = .returned (.int .i64 (k : Int)) ∧ Below w.heap.size w w' := by
  go_enter Tryz.func129, Tryz.ntmps129
  go_wp2_with fail
  go_loop [1, 5] (fun x i => x = .int .i64 (k : Int) ∧ i = .int .i64 0) (fun _ _ => 0)
  case atStart => exact ⟨rfl, rfl⟩
  case round =>
    obtain ⟨rfl, rfl⟩ := hrel
    go_wp2_with fail
    go_ret
    exact ⟨rfl, Below.refl _ _⟩
theorem markHeaderS_lv (w : World) (v : Value) (l : List Hdr) (hl : l.length ≤ 1048576) (h : HLV w v l) (base : Nat) (hb : ∀ b, v.ownBlock = some b → base ≤ b) (hbs : base ≤ w.heap.size) :
    Calls Tryz.prog 70 #[v, .int .i64 1] w fun e w' => e = .returned (.int .i64 ((1 + 2 * l.length : Nat) : Int)) ∧ HLV w' v (mkHL 1 l.length) ∧ HAV v w w' ∧ Below base w w' := by
  rcases h with ⟨rfl, rfl⟩ | ⟨g, c, rfl, hg, hi, hf⟩
  · exact (markHeaderS_nil w none 0 1).mono fun _ _ ⟨h1, h2⟩ => ⟨h1, .inl ⟨rfl, rfl⟩, .below h2, h2.mono hbs⟩
  · refine (markHeaderS_any w g 0 c l.length 1 l rfl hl (by omega) (by omega) hi hf hg).mono ?_
    rintro e w' ⟨h1, h2, h3, h4, h5⟩
    have hne : ∀ b, (Value.slice (some ⟨g, 0, none⟩) l.length c).ownBlock ≠ some b → b ≠ g := fun b hb e => hb (by subst e; rfl)
    refine ⟨h1, ?_, ⟨h3.size, fun b o hb hn => h3.cell b o hb (hne b hn), fun b o hb hn => h3.frozen b o hb (hne b hn)⟩, h4.mono (hb g rfl)⟩
    exact .inr ⟨g, c, by rw [mkHL_len], Nat.lt_of_lt_of_le hg h3.size, h2, h5⟩
theorem heldHeaderS_lv (w : World) (v : Value) (n : Nat) (hl : n ≤ 1048576) (h : HLV w v (mkHL 1 n)) :
    Calls Tryz.prog 129 #[v, .int .i64 1] w fun e w' => e = .returned (.int .i64 ((1 + 2 * n : Nat) : Int)) ∧ Below w.heap.size w w' := by
  rcases h with ⟨rfl, h0⟩ | ⟨g, c, rfl, _, hi, _⟩
  · have e := congrArg List.length h0
    rw [mkHL_len] at e
    simp at e
    subst e
    exact heldHeaderS_nil w none 0 1
  · rw [mkHL_len]
    exact heldHeaderS_any w g 0 c n 1 hl (by omega) (by omega) hi
end Go.Proofs.YtolkgnnjocmkdaaGreatDoor
/-
  Word bytes: the table, plainly. No Go in sight.
-/
namespace Go.Proofs.YtolkgnnjocmkdaaGreatDoor
def wordTab : List Bool := [false, false, false, false, false, false, false, false, false, false, false, false, false, false, false, false, false, false, false, false, false, false, false, false, false, false, false, false, false, false, false, false, false, true, false, true, true, true, true, true, false, false, true, true, false, true, true, false, true, true, true, true, true, true, true, true, true, true, false, false, false, false, false, false, false, true, true, true, true, true, true, true, true, true, true, true, true, true, true, true, true, true, true, true, true, true, true, true, true, true, true, false, false, false, true, true, false, true, true, true, true, true, true, true, true, true, true, true, true, true, true, true, true, true, true, true, true, true, true, true, true, true, true, false, true, false, true, false]
def wordI (c : Int) : Bool := wordTab.getD c.toNat false
theorem wordTab_len : wordTab.length = 128 := by decide +kernel
/-- One of the signs that are no letter and no digit. -/
def signI (c : Nat) : Bool := [33, 35, 36, 37, 38, 39, 42, 43, 45, 46, 94, 95, 124, 126].contains c
theorem table_all : ∀ c : Fin 256, wordTab.getD c.val false = (signI c.val || (decide (97 ≤ c.val) && decide (c.val ≤ 122)) || (decide (65 ≤ c.val) && decide (c.val ≤ 90)) || (decide (48 ≤ c.val) && decide (c.val ≤ 57))) := by decide +kernel
theorem wordI_eq (c : Int) (h0 : 0 ≤ c) (h1 : c < 256) : wordI c = (signI c.toNat || (decide (97 ≤ c) && decide (c ≤ 122)) || (decide (65 ≤ c) && decide (c ≤ 90)) || (decide (48 ≤ c) && decide (c ≤ 57))) := by
  obtain ⟨n, rfl⟩ := Int.eq_ofNat_of_zero_le h0
  have h2 : n < 256 := by omega
  have := table_all ⟨n, h2⟩
  simp only at this
  rw [wordI, Int.toNat_natCast, this]
  have e : ∀ a : Nat, decide (a ≤ n) = decide ((a : Int) ≤ (n : Int)) := fun a => by simp
  have e' : ∀ a : Nat, decide (n ≤ a) = decide ((n : Int) ≤ (a : Int)) := fun a => by simp
  simp only [e, e']
  rfl
theorem wordI_big (c : Int) (h : 128 ≤ c) : wordI c = false := by
  have hl := wordTab_len
  unfold wordI
  rw [List.getD_eq_getElem?_getD, List.getElem?_eq_none (by omega)]
  rfl
def allW (l : List UInt8) : Bool := l.all fun c => wordI (c.toNat : Int)
theorem allW_snoc (l : List UInt8) (c : UInt8) : allW (l ++ [c]) = (allW l && wordI (c.toNat : Int)) := by simp [allW]
theorem allW_of_take (l : List UInt8) (k : Nat) (h : allW (l.take k) = false) : allW l = false := by
  have e := List.take_append_drop k l
  rw [← e]
  simp only [allW] at h ⊢
  rw [List.all_append, h, Bool.false_and]
theorem allW_not (s : ByteArray) (k : Nat) (h : k < s.size) (hd : wordI (s[k].toNat : Int) = false) : allW s.data.toList = false := by
  refine allW_of_take _ (k + 1) ?_
  rw [take_snoc s k h, allW_snoc, hd, Bool.and_false]
def wordS (s : ByteArray) : Bool := decide (1 ≤ s.size) && decide (s.size ≤ 64) && allW s.data.toList
theorem wordS_short (s : ByteArray) (h : s.size < 1) : wordS s = false := by simp [wordS]; omega
theorem wordS_long (s : ByteArray) (h : 64 < s.size) : wordS s = false := by simp [wordS]; omega
theorem wordS_mid (s : ByteArray) (h1 : 1 ≤ s.size) (h2 : s.size ≤ 64) : wordS s = allW s.data.toList := by simp [wordS, h1, h2]
end Go.Proofs.YtolkgnnjocmkdaaGreatDoor
/-
  Quotes, plainly. No Go in sight.
-/
namespace Go.Proofs.YtolkgnnjocmkdaaGreatDoor
def plainI (c : Int) : Bool := c == 9 || (decide (32 ≤ c) && decide (c ≤ 126))
def plainL (l : List UInt8) : Bool := l.all fun c => plainI (c.toNat : Int)
theorem plainL_snoc (l : List UInt8) (c : UInt8) : plainL (l ++ [c]) = (plainL l && plainI (c.toNat : Int)) := by simp [plainL]
theorem plainL_of_take (l : List UInt8) (k : Nat) (h : plainL (l.take k) = false) : plainL l = false := by
  have e := List.take_append_drop k l
  rw [← e]
  simp only [plainL] at h ⊢
  rw [List.all_append, h, Bool.false_and]
theorem plainL_not (s : ByteArray) (k : Nat) (h : k < s.size) (hd : plainI (s[k].toNat : Int) = false) : plainL s.data.toList = false := by
  refine plainL_of_take _ (k + 1) ?_
  rw [take_snoc s k h, plainL_snoc, hd, Bool.and_false]
/-- One byte between quotes. -/
def quoteC (c : UInt8) : List UInt8 := if (c.toNat : Int) = 34 ∨ (c.toNat : Int) = 92 then [92, c] else [c]
def quoteB (l : List UInt8) : List UInt8 := l.flatMap quoteC
def quoteL (l : List UInt8) : List UInt8 := [34] ++ quoteB l ++ [34]
theorem quoteB_snoc (l : List UInt8) (c : UInt8) : quoteB (l ++ [c]) = quoteB l ++ quoteC c := by simp [quoteB]
theorem quoteC_yes {c : UInt8} (h : (c.toNat : Int) = 34 ∨ (c.toNat : Int) = 92) : quoteC c = [92, c] := by simp only [quoteC, if_pos h]
theorem quoteC_no {c : UInt8} (h : ¬ ((c.toNat : Int) = 34 ∨ (c.toNat : Int) = 92)) : quoteC c = [c] := by simp only [quoteC, if_neg h]
theorem quoteC_len (c : UInt8) : (quoteC c).length ≤ 2 := by unfold quoteC; split <;> simp
theorem quoteB_len (l : List UInt8) : (quoteB l).length ≤ 2 * l.length := by
  induction l with
  | nil => simp [quoteB]
  | cons c r ih =>
    have := quoteC_len c
    simp only [quoteB, List.flatMap_cons, List.length_append, List.length_cons] at ih ⊢
    omega
theorem quoteB_ge (l : List UInt8) : l.length ≤ (quoteB l).length := by
  induction l with
  | nil => simp
  | cons c r ih =>
    have : 1 ≤ (quoteC c).length := by unfold quoteC; split <;> simp
    simp only [quoteB, List.flatMap_cons, List.length_append, List.length_cons] at ih ⊢
    omega
/-- What stands between quotes, read from behind the first one; acc: what was taken. -/
def unq (acc : List UInt8) : List UInt8 → List UInt8 × Bool
  | [] => ([], false)
  | [c] => if (c.toNat : Int) = 34 then (acc, true) else ([], false)
  | c :: d :: r => if (c.toNat : Int) = 34 then (acc, false) else if (c.toNat : Int) = 92 then unq (acc ++ [d]) r else unq (acc ++ [c]) (d :: r)
/-- A text between quotes: what it tells, and whether it does. -/
def unqT (l : List UInt8) : List UInt8 × Bool := if 2 ≤ l.length ∧ l.head? = some 34 ∧ plainL l = true then unq [] l.tail else ([], false)
theorem unq_end (acc r : List UInt8) (c : UInt8) (h : (c.toNat : Int) = 34) : unq acc (c :: r) = (acc, decide (r = [])) := by
  cases r with
  | nil => rw [unq, if_pos h]; rfl
  | cons d r => rw [unq, if_pos h]; simp
theorem unq_cut (acc : List UInt8) (c : UInt8) (h : (c.toNat : Int) = 92) : unq acc [c] = ([], false) := by
  rw [unq, if_neg (by omega)]
theorem unq_esc (acc r : List UInt8) (c d : UInt8) (h : (c.toNat : Int) = 92) : unq acc (c :: d :: r) = unq (acc ++ [d]) r := by
  rw [unq, if_neg (by omega), if_pos h]
theorem unq_take (acc r : List UInt8) (c : UInt8) (h1 : ¬ (c.toNat : Int) = 34) (h2 : ¬ (c.toNat : Int) = 92) : unq acc (c :: r) = unq (acc ++ [c]) r := by
  cases r with
  | nil => simp only [unq, if_neg h1]
  | cons d r => rw [unq, if_neg h1, if_neg h2]
/-- What was quoted is read as it was. -/
theorem unq_quote (l : List UInt8) : ∀ acc, unq acc (quoteB l ++ [34]) = (acc ++ l, true) := by
  induction l with
  | nil => intro acc; rw [show quoteB [] ++ [34] = [34] from rfl, unq_end _ _ _ (by decide)]; simp
  | cons c r ih =>
    intro acc
    have e : quoteB (c :: r) ++ [34] = quoteC c ++ (quoteB r ++ [34]) := by simp [quoteB]
    rw [e]
    by_cases h : (c.toNat : Int) = 34 ∨ (c.toNat : Int) = 92
    · rw [quoteC_yes h]
      show unq acc (92 :: c :: (quoteB r ++ [34])) = _
      rw [unq_esc _ _ _ _ (by decide), ih]; simp
    · rw [quoteC_no h]
      show unq acc (c :: (quoteB r ++ [34])) = _
      rw [unq_take _ _ _ (by omega) (by omega), ih]; simp
theorem plain_quoteB (l : List UInt8) (h : plainL l = true) : plainL (quoteB l) = true := by
  induction l with
  | nil => rfl
  | cons c r ih =>
    simp only [plainL, List.all_cons, Bool.and_eq_true] at h
    have e : quoteB (c :: r) = quoteC c ++ quoteB r := by simp [quoteB]
    rw [e]
    simp only [plainL, List.all_append, Bool.and_eq_true]
    refine ⟨?_, ih h.2⟩
    unfold quoteC
    split
    · simp [h.1]; decide
    · simp [h.1]
theorem unqT_quote (l : List UInt8) (h : plainL l = true) : unqT (quoteL l) = (l, true) := by
  have hp : plainL (quoteL l) = true := by
    simp only [quoteL, plainL, List.all_append, Bool.and_eq_true]
    exact ⟨⟨by decide, plain_quoteB l h⟩, by decide⟩
  unfold unqT
  rw [if_pos ⟨by simp [quoteL], rfl, hp⟩]
  show unq [] (quoteB l ++ [34]) = _
  rw [unq_quote]; simp
end Go.Proofs.YtolkgnnjocmkdaaGreatDoor
/-
  Blanks at both ends: plainly. No Go in sight.
-/
namespace Go.Proofs.YtolkgnnjocmkdaaGreatDoor
def blankI (c : Int) : Bool := c == 32 || c == 9
def trimT (s : ByteArray) : ByteArray := ⟨(Lib.trimS s.data.toList [32, 9]).toArray⟩
theorem contains_blank (b : UInt8) : [(32 : UInt8), 9].contains b = blankI (b.toNat : Int) := by
  rw [Bool.eq_iff_iff]
  simp [blankI, List.contains_eq_mem]
  constructor
  · rintro (rfl | rfl) <;> simp
  · rintro (h | h)
    · exact .inl (UInt8.toNat_inj.1 (by simpa using (by omega : b.toNat = 32)))
    · exact .inr (UInt8.toNat_inj.1 (by simpa using (by omega : b.toNat = 9)))
theorem trim_between (l : List UInt8) (k m : Nat) (hkm : k ≤ m) (hm : m ≤ l.length)
    (h1 : ∀ (j : Nat) b, j < k → l[j]? = some b → blankI (b.toNat : Int) = true) (h2 : ∀ b, k < l.length → l[k]? = some b → blankI (b.toNat : Int) = false)
    (h3 : ∀ (j : Nat) b, m ≤ j → l[j]? = some b → blankI (b.toNat : Int) = true) (h4 : ∀ b, k < m → l[m - 1]? = some b → blankI (b.toNat : Int) = false) :
    Lib.trimS l [32, 9] = (l.take m).drop k := by
  by_cases e : k < m
  · have er : Lib.trimRightS l [32, 9] = l.take m := by
      refine Lib.trimRightS_take l _ m hm (fun j b hj hb => ?_) (fun b _ hb => ?_)
      · rw [contains_blank]; exact h3 j b hj hb
      · rw [contains_blank]; exact h4 b e hb
    unfold Lib.trimS
    rw [er]
    refine Lib.trimLeftS_drop _ _ k (by simp; omega) (fun j b hj hb => ?_) (fun b hb => ?_)
    · rw [List.getElem?_take_of_lt (by omega)] at hb
      rw [contains_blank]; exact h1 j b hj hb
    · rw [List.getElem?_take_of_lt (by omega)] at hb
      rw [contains_blank]; exact h2 b (by omega) hb
  · obtain rfl : k = m := by omega
    have ek : k = l.length := by
      by_cases c : k < l.length
      · have a := h2 _ c (List.getElem?_eq_getElem c)
        have b := h3 k _ (Nat.le_refl _) (List.getElem?_eq_getElem c)
        rw [a] at b; cases b
      · omega
    have er : Lib.trimRightS l [32, 9] = l.take 0 := by
      refine Lib.trimRightS_take l _ 0 (Nat.zero_le _) (fun j b _ hb => ?_) (fun b h0 _ => absurd h0 (by omega))
      have hj : j < l.length := (List.getElem?_eq_some_iff.1 hb).1
      rw [contains_blank]; exact h1 j b (by omega) hb
    unfold Lib.trimS
    rw [er]
    simp [Lib.trimLeftS, ek]
theorem trim_extract (s : ByteArray) (k m : Nat) (h : Lib.trimS s.data.toList [32, 9] = (s.data.toList.take m).drop k) : s.extract k m = trimT s := by
  apply ByteArray.ext
  unfold trimT
  rw [h]
  apply Array.ext'
  simp [List.drop_take]
end Go.Proofs.YtolkgnnjocmkdaaGreatDoor
/-
  What the model's l1Lower answers.
-/
namespace Go.Proofs.YtolkgnnjocmkdaaGreatDoor
open Go.ChangeShapes Go.WideShapes Go.ChangeAt Go.RowKit
def lowS (s : ByteArray) : ByteArray := ⟨(s.data.toList.map lowU).toArray⟩
set_option maxHeartbeats 1000000 in
theorem l1Lower_any (s : ByteArray) (w : World) (hs : s.size ≤ 1048576) :
    Calls Tryz.prog 219 #[.string s] w fun e w' => e = .returned (.string (lowS s)) ∧ Below w.heap.size w w' := by
  obtain ⟨C, cap, hcv, hrow⟩ : ∃ C cap, (convert 9 25 (.string s)).run Tryz.prog w = .ok (.slice (some ⟨w.heap.size, 0, none⟩) s.size cap) (w.drew.alloc (.cells C 5 (C.size, C.size + 1))) ∧ BRow (w.alloc (.cells C 5 (C.size, C.size + 1))) w.heap.size s.data.toList :=
    ⟨_, _, run_bytes_of_string w 9 25 5 s Tryz.underlying9 Tryz.underlying25 Tryz.underlying5, BRow.made w s _ _ rfl⟩
  go_enter Tryz.func219, Tryz.ntmps219
  go_wp2
  go_loopw [4] (fun i wr => ∃ k : Nat, k ≤ s.size ∧ i = .int .i64 k ∧ BRow wr w.heap.size (lowK s.data.toList k) ∧ Below w.heap.size w wr) (fun i _ => s.size - (intOf i).toNat)
  case atStart => exact ⟨0, Nat.zero_le _, rfl, by rw [lowK_zero]; exact ⟨hrow.cell, hrow.free⟩, ((Below.refl _ _).alloc (Nat.le_refl _) _).drew⟩
  case round =>
    obtain ⟨k, hk, rfl, hr, hb⟩ := hrel
    clear hcv hrow
    have hlen := lowK_length s.data.toList k
    by_cases hlt : k < s.size
    · have hl : k < s.data.toList.length := by simpa using hlt
      have hl2 : k < (lowK s.data.toList k).length := by omega
      have hc := hr.cell k hl2
      have hf := hr.free k hl2
      rw [lowK_at _ _ hl hl2] at hc
      have Y : Hid (65 ≤ (s.data.toList[k].toNat : Int) ∧ (s.data.toList[k].toNat : Int) ≤ 90 → BRow (wr.setCell ⟨w.heap.size, k, none⟩ (.int .u8 ((s.data.toList[k].toNat : Int) + 32))) w.heap.size (lowK s.data.toList (k + 1))) := by
        intro ⟨u1, u2⟩
        have := hr.set k (lowU s.data.toList[k])
        rw [lowU_yes _ u1 u2] at this
        rw [lowK_succ _ _ hl]
        exact this
      have N : Hid (¬ (65 ≤ (s.data.toList[k].toNat : Int) ∧ (s.data.toList[k].toNat : Int) ≤ 90) → BRow wr w.heap.size (lowK s.data.toList (k + 1))) := by
        intro u
        rw [lowK_keep _ _ hl u]
        exact hr
      generalize s.data.toList[k] = x at *
      clear hr hlen hl2 hl
      by_cases hU : 65 ≤ (x.toNat : Int) ∧ (x.toNat : Int) ≤ 90
      · have R : Hid (BRow (wr.setCell ⟨w.heap.size, k, none⟩ (.int .u8 ((x.toNat : Int) + 32))) w.heap.size (lowK s.data.toList (k + 1))) := Y.out hU
        obtain ⟨u1, u2⟩ := hU
        have d2 : decide ((x.toNat : Int) ≤ 90) = true := by simpa using u2
        clear Y N
        go_wp2
        go_roundw
        case rel => exact ⟨k + 1, by omega, by go_num, R.out, hb.setCell (Nat.le_refl _) _⟩
        case measure => simp [intOf]; omega
      · have R : Hid (BRow wr w.heap.size (lowK s.data.toList (k + 1))) := N.out hU
        clear Y N
        by_cases u1 : 65 ≤ (x.toNat : Int)
        · have u2 : 90 < (x.toNat : Int) := by omega
          have d2 : decide ((x.toNat : Int) ≤ 90) = false := by simp; omega
          clear hU
          go_wp2
          go_roundw
          case rel => exact ⟨k + 1, by omega, by go_num, R.out, hb⟩
          case measure => simp [intOf]; omega
        · clear hU
          go_wp2
          go_roundw
          case rel => exact ⟨k + 1, by omega, by go_num, R.out, hb⟩
          case measure => simp [intOf]; omega
    · have e : lowK s.data.toList k = s.data.toList.map lowU := lowK_all _ _ (by simp; omega)
      rw [e] at hr
      have hback := hr.back (P := Tryz.prog) 25 9 5 s.size cap (by simp) Tryz.underlying25 Tryz.underlying5 Tryz.underlying9
      have HL : Hid ((⟨(s.data.toList.map lowU).toArray⟩ : ByteArray) = lowS s) := rfl
      generalize (⟨(s.data.toList.map lowU).toArray⟩ : ByteArray) = r at *
      clear hr e hlen
      go_wp2
      go_ret
      exact ⟨ret_str HL.out, hb⟩
end Go.Proofs.YtolkgnnjocmkdaaGreatDoor
/-
  Head lines, plainly: their faults, their text, how they are found, set and dropped. No Go in sight.
-/
namespace Go.Proofs.YtolkgnnjocmkdaaGreatDoor
def faultH (r : Hdr) : Int := if wordS r.name = false then 5 else if 200 < r.value.size then 2 else if plainL r.value.data.toList = false then 5 else if trimT r.value = r.value then 0 else 5
def faultHL : List Hdr → Int
  | [] => 0
  | r :: l => if faultH r = 0 then faultHL l else faultH r
theorem faultHL_ok {r : Hdr} {l : List Hdr} (h : faultH r = 0) : faultHL (r :: l) = faultHL l := by rw [faultHL, if_pos h]
theorem faultHL_bad {r : Hdr} {l : List Hdr} (h : faultH r ≠ 0) : faultHL (r :: l) = faultH r := by rw [faultHL, if_neg h]
def headsC (l : List Hdr) : Int := if 20 < l.length then 2 else faultHL l
theorem headsC_many {l : List Hdr} (h : 20 < l.length) : headsC l = 2 := by unfold headsC; rw [if_pos h]
theorem headsC_few {l : List Hdr} (h : ¬ 20 < l.length) : headsC l = faultHL l := by unfold headsC; rw [if_neg h]
theorem faultH_zero {r : Hdr} (h : faultH r = 0) : wordS r.name = true ∧ r.value.size ≤ 200 ∧ plainL r.value.data.toList = true ∧ trimT r.value = r.value := by
  unfold faultH at h
  by_cases c1 : wordS r.name = false
  · rw [if_pos c1] at h; omega
  rw [if_neg c1] at h
  by_cases c2 : 200 < r.value.size
  · rw [if_pos c2] at h; omega
  rw [if_neg c2] at h
  by_cases c3 : plainL r.value.data.toList = false
  · rw [if_pos c3] at h; omega
  rw [if_neg c3] at h
  by_cases c4 : trimT r.value = r.value
  · exact ⟨by simpa using c1, by omega, by simpa using c3, c4⟩
  · rw [if_neg c4] at h; omega
theorem faultHL_zero (l : List Hdr) (h : faultHL l = 0) : ∀ (i : Nat) r, l[i]? = some r → faultH r = 0 := by
  induction l with
  | nil => intro i r hr; simp at hr
  | cons x l ih =>
    intro i r hr
    by_cases c : faultH x = 0
    · rw [faultHL_ok c] at h
      cases i with
      | zero => simp at hr; subst hr; exact c
      | succ i => exact ih h i r (by simpa using hr)
    · rw [faultHL_bad c] at h; exact absurd h c
theorem faultHL_of (l : List Hdr) (h : ∀ r ∈ l, faultH r = 0) : faultHL l = 0 := by
  induction l with
  | nil => rfl
  | cons x l ih => rw [faultHL_ok (h x (by simp))]; exact ih fun r hr => h r (by simp [hr])
theorem headsC_zero {l : List Hdr} (h : headsC l = 0) : l.length ≤ 20 ∧ ∀ (i : Nat) r, l[i]? = some r → faultH r = 0 := by
  by_cases c : 20 < l.length
  · rw [headsC_many c] at h; omega
  · rw [headsC_few c] at h; exact ⟨by omega, faultHL_zero l h⟩
theorem hword_max {s : ByteArray} (h : wordS s = true) : s.size ≤ 64 := by
  by_cases c : 64 < s.size
  · rw [wordS_long s c] at h; cases h
  · omega
theorem take_hdr {l : List Hdr} {k : Nat} {r : Hdr} (h : l[k]? = some r) : l.take (k + 1) = l.take k ++ [r] := by rw [List.take_add_one, h]; rfl
theorem happ_list (a b : ByteArray) : (a ++ b).data.toList = a.data.toList ++ b.data.toList := by simp
theorem hof_list {a : ByteArray} {l : List UInt8} (h : a.data.toList = l) : a = ⟨l.toArray⟩ := by subst h; cases a; simp
theorem hret_ct {a b : Int} {s t : ByteArray} (h : a = b ∧ s = t) : Ending.returned (.agg #[.int .i64 b, .string t]) = .returned (.agg #[.int .i64 a, .string s]) := by rw [h.1, h.2]
/-! ### their text -/
def lineL (r : Hdr) : List UInt8 := r.name.data.toList ++ [58, 32] ++ r.value.data.toList ++ [13, 10]
def packL (l : List Hdr) : List UInt8 := l.flatMap lineL
theorem packL_take {l : List Hdr} {k : Nat} {r : Hdr} (h : l[k]? = some r) : packL (l.take (k + 1)) = packL (l.take k) ++ lineL r := by rw [take_hdr h]; simp [packL]
theorem lineL_len {r : Hdr} (h : faultH r = 0) : (lineL r).length ≤ 268 := by
  obtain ⟨h1, h2, _⟩ := faultH_zero h
  have := hword_max h1
  have e1 : r.name.data.toList.length = r.name.size := by simp
  have e2 : r.value.data.toList.length = r.value.size := by simp
  simp only [lineL, List.length_append, List.length_cons, List.length_nil]
  omega
def packT (l : List Hdr) : ByteArray := if headsC l = 0 then ⟨(packL l).toArray⟩ else ⟨#[]⟩
theorem packT_ok {l : List Hdr} (h : headsC l = 0) : packT l = ⟨(packL l).toArray⟩ := by unfold packT; rw [if_pos h]
theorem packT_bad {l : List Hdr} (h : headsC l ≠ 0) : packT l = ⟨#[]⟩ := by unfold packT; rw [if_neg h]
/-! ### names that are alike -/
def askC (l : List Hdr) (name : ByteArray) : Int := if headsC l = 0 then (if wordS name = true then 0 else 5) else headsC l
theorem askC_bad {l : List Hdr} {name : ByteArray} (h : headsC l ≠ 0) : askC l name = headsC l := by unfold askC; rw [if_neg h]
theorem askC_word {l : List Hdr} {name : ByteArray} (h : headsC l = 0) (hw : wordS name = true) : askC l name = 0 := by unfold askC; rw [if_pos h, if_pos hw]
theorem askC_text {l : List Hdr} {name : ByteArray} (h : headsC l = 0) (hw : wordS name = false) : askC l name = 5 := by unfold askC; rw [if_pos h, if_neg (by rw [hw]; decide)]
theorem askC_zero {l : List Hdr} {name : ByteArray} (h : askC l name = 0) : headsC l = 0 ∧ wordS name = true := by
  by_cases c : headsC l = 0
  · cases hw : wordS name
    · rw [askC_text c hw] at h; omega
    · exact ⟨c, rfl⟩
  · rw [askC_bad c] at h; exact absurd h c
/-- The values of all lines whose name, in small letters, is x. -/
def valsOf (x : ByteArray) (l : List Hdr) : List ByteArray := (l.filter fun r => decide (lowS r.name = x)).map (·.value)
theorem valsOf_yes {x : ByteArray} {r : Hdr} (l : List Hdr) (h : lowS r.name = x) : valsOf x (l ++ [r]) = valsOf x l ++ [r.value] := by simp [valsOf, h]
theorem valsOf_no {x : ByteArray} {r : Hdr} (l : List Hdr) (h : ¬ lowS r.name = x) : valsOf x (l ++ [r]) = valsOf x l := by simp [valsOf, h]
def hjoinL (vs : List ByteArray) : List UInt8 := Lib.join (vs.map (·.data.toList)) [44, 32]
theorem hjoinL_snoc (vs : List ByteArray) (v : ByteArray) : hjoinL (vs ++ [v]) = hjoinL vs ++ (if vs = [] then [] else [44, 32]) ++ v.data.toList := by
  unfold hjoinL
  cases vs with
  | nil => simp [Lib.join, List.intercalate]
  | cons a r =>
    rw [List.map_append, List.map_cons, List.cons_append, Lib.join_cons, Lib.join_cons]
    simp [Lib.joinTail]
def joinC (l : List Hdr) (name : ByteArray) : Int := if askC l name = 0 then (if valsOf (lowS name) l = [] then 4 else 0) else askC l name
def joinT (l : List Hdr) (name : ByteArray) : ByteArray := if joinC l name = 0 then ⟨(hjoinL (valsOf (lowS name) l)).toArray⟩ else ⟨#[]⟩
theorem join_bad {l : List Hdr} {name : ByteArray} (h : askC l name ≠ 0) : joinC l name = askC l name ∧ joinT l name = ⟨#[]⟩ := by
  have e : joinC l name = askC l name := by unfold joinC; rw [if_neg h]
  exact ⟨e, by unfold joinT; rw [if_neg (by rw [e]; exact h)]⟩
theorem join_none {l : List Hdr} {name : ByteArray} (h : askC l name = 0) (hv : valsOf (lowS name) l = []) : joinC l name = 4 ∧ joinT l name = ⟨#[]⟩ := by
  have e : joinC l name = 4 := by unfold joinC; rw [if_pos h, if_pos hv]
  exact ⟨e, by unfold joinT; rw [if_neg (by rw [e]; decide)]⟩
theorem join_some {l : List Hdr} {name : ByteArray} (h : askC l name = 0) (hv : valsOf (lowS name) l ≠ []) : joinC l name = 0 ∧ joinT l name = ⟨(hjoinL (valsOf (lowS name) l)).toArray⟩ := by
  have e : joinC l name = 0 := by unfold joinC; rw [if_pos h, if_neg hv]
  exact ⟨e, by unfold joinT; rw [if_pos e]⟩
/-- What is left without the lines whose name, in small letters, is x. -/
def dropH (x : ByteArray) (l : List Hdr) : List Hdr := l.filter fun r => decide (¬ lowS r.name = x)
theorem dropH_yes {x : ByteArray} {r : Hdr} (l : List Hdr) (h : lowS r.name = x) : dropH x (l ++ [r]) = dropH x l := by simp [dropH, h]
theorem dropH_no {x : ByteArray} {r : Hdr} (l : List Hdr) (h : ¬ lowS r.name = x) : dropH x (l ++ [r]) = dropH x l ++ [r] := by simp [dropH, h]
theorem dropH_len (x : ByteArray) (l : List Hdr) : (dropH x l).length ≤ l.length := List.length_filter_le _ _
def dropL (l : List Hdr) (name : ByteArray) : List Hdr := if askC l name = 0 then dropH (lowS name) l else []
/-- Where the first line of that name stands. -/
def firstAt (x : ByteArray) : List Hdr → Option Nat
  | [] => none
  | r :: l => if lowS r.name = x then some 0 else (firstAt x l).map (· + 1)
theorem firstAt_none {x : ByteArray} : ∀ {l : List Hdr}, firstAt x l = none → ∀ r ∈ l, ¬ lowS r.name = x
  | [], _, r, hr => by simp at hr
  | y :: l, h, r, hr => by
    by_cases c : lowS y.name = x
    · rw [firstAt, if_pos c] at h; cases h
    · rw [firstAt, if_neg c] at h
      rcases List.mem_cons.1 hr with rfl | hr
      · exact c
      · exact firstAt_none (Option.map_eq_none_iff.1 h) r hr
theorem firstAt_lt {x : ByteArray} : ∀ {l : List Hdr} {i : Nat}, firstAt x l = some i → i < l.length
  | [], i, h => by simp [firstAt] at h
  | y :: l, i, h => by
    by_cases c : lowS y.name = x
    · rw [firstAt, if_pos c] at h; obtain rfl := Option.some.inj h; simp
    · rw [firstAt, if_neg c] at h
      obtain ⟨j, hj, rfl⟩ := Option.map_eq_some_iff.1 h
      have := firstAt_lt hj
      simp only [List.length_cons]; omega
theorem firstAt_snoc {x : ByteArray} (r : Hdr) : ∀ (l : List Hdr), firstAt x (l ++ [r]) = match firstAt x l with | some i => some i | none => if lowS r.name = x then some l.length else none
  | [] => by simp [firstAt]
  | y :: l => by
    by_cases c : lowS y.name = x
    · simp [firstAt, c]
    · simp only [List.cons_append, firstAt, if_neg c]
      rw [firstAt_snoc r l]
      cases firstAt x l with
      | some i => rfl
      | none => simp only [Option.map_none]; split <;> simp
theorem valsOf_first {x : ByteArray} : ∀ {l : List Hdr}, valsOf x l = [] ↔ firstAt x l = none
  | [] => by simp [valsOf, firstAt]
  | y :: l => by
    by_cases c : lowS y.name = x
    · simp [valsOf, firstAt, c]
    · have := @valsOf_first x l
      simp only [valsOf] at this
      simp only [valsOf, firstAt, List.filter_cons, c, decide_false, Bool.false_eq_true, if_false, this, Option.map_eq_none_iff]
theorem valsOf_drop {x : ByteArray} : ∀ {l : List Hdr} {i : Nat}, firstAt x l = some i → valsOf x (l.drop i) = valsOf x l ∧ valsOf x (l.take i) = []
  | [], i, h => by simp [firstAt] at h
  | y :: l, i, h => by
    by_cases c : lowS y.name = x
    · rw [firstAt, if_pos c] at h; obtain rfl := Option.some.inj h; simp [valsOf]
    · rw [firstAt, if_neg c] at h
      obtain ⟨j, hj, rfl⟩ := Option.map_eq_some_iff.1 h
      have := valsOf_drop hj
      simp only [valsOf] at this
      simp only [valsOf, List.drop_succ_cons, List.take_succ_cons, List.filter_cons, c, decide_false, Bool.false_eq_true, if_false]
      exact this
/-- A line set. -/
def setGo (h : Hdr) : Bool → List Hdr → List Hdr
  | done, [] => if done = true then [] else [h]
  | done, r :: l => if lowS r.name = lowS h.name then (if done = true then setGo h true l else h :: setGo h true l) else r :: setGo h done l
theorem setGo_done (h : Hdr) : ∀ l : List Hdr, setGo h true l = dropH (lowS h.name) l
  | [] => by simp [setGo, dropH]
  | r :: l => by
    have ih := setGo_done h l
    by_cases c : lowS r.name = lowS h.name
    · simp only [setGo, if_true, ih, dropH, List.filter_cons, c, not_true_eq_false, decide_false, Bool.false_eq_true, if_false]
    · simp [setGo, ih, dropH, c]
theorem setGo_first (h : Hdr) : ∀ (l : List Hdr), setGo h false l = match firstAt (lowS h.name) l with
    | some i => (dropH (lowS h.name) l).take i ++ [h] ++ (dropH (lowS h.name) l).drop i
    | none => dropH (lowS h.name) l ++ [h]
  | [] => by simp [setGo, firstAt, dropH]
  | r :: l => by
    have ih := setGo_first h l
    by_cases c : lowS r.name = lowS h.name
    · simp only [setGo, firstAt, setGo_done, dropH, List.filter_cons, c, not_true_eq_false, decide_false, Bool.false_eq_true, if_false]
      simp
    · simp only [setGo, if_neg c, firstAt]
      rw [ih]
      have e : dropH (lowS h.name) (r :: l) = r :: dropH (lowS h.name) l := by simp [dropH, c]
      rw [e]
      cases firstAt (lowS h.name) l with
      | none => simp
      | some i => simp
theorem dropH_all {x : ByteArray} {l : List Hdr} (h : firstAt x l = none) : dropH x l = l := by
  unfold dropH
  rw [List.filter_eq_self]
  intro r hr
  simpa using firstAt_none h r hr
theorem setGo_len (h : Hdr) (l : List Hdr) : (setGo h false l).length = match firstAt (lowS h.name) l with | some _ => (dropH (lowS h.name) l).length + 1 | none => l.length + 1 := by
  rw [setGo_first]
  cases c : firstAt (lowS h.name) l with
  | none => simp [dropH_all c]
  | some i =>
    simp only [List.length_append, List.length_cons, List.length_nil, List.length_take, List.length_drop]
    omega
theorem dropH_lt {x : ByteArray} {i : Nat} : ∀ {l : List Hdr}, firstAt x l = some i → (dropH x l).length < l.length
  | [], h => by simp [firstAt] at h
  | r :: l, h => by
    by_cases c : lowS r.name = x
    · have := dropH_len x l
      simp only [dropH] at this
      simp only [dropH, List.filter_cons, c, not_true_eq_false, decide_false, Bool.false_eq_true, if_false, List.length_cons]
      omega
    · rw [firstAt, if_neg c] at h
      obtain ⟨j, hj, rfl⟩ := Option.map_eq_some_iff.1 h
      have := dropH_lt hj
      simp only [dropH] at this
      simp only [dropH, List.filter_cons, c, not_false_eq_true, decide_true, if_true, List.length_cons]
      omega
def setC (l : List Hdr) (h : Hdr) : Int := if askC l h.name = 0 then (if faultH h = 0 then (if 20 < (setGo h false l).length then 2 else 0) else faultH h) else askC l h.name
def setL (l : List Hdr) (h : Hdr) : List Hdr := if setC l h = 0 then setGo h false l else []
end Go.Proofs.YtolkgnnjocmkdaaGreatDoor
/-
  What the model's l1WordByte answers at any byte.
-/
namespace Go.Proofs.YtolkgnnjocmkdaaGreatDoor
open Go.ChangeShapes Go.WideShapes Go.ChangeAt Go.RowKit
set_option maxHeartbeats 400000 in
theorem wordByte_33 (w : World) :
    Calls Tryz.prog 178 #[.int .u8 33] w fun e w' => e = .returned (.bool (wordI 33)) ∧ w' = w := by
  have W : wordI 33 = true := by decide +kernel
  rw [W]
  clear W
  go_enter Tryz.func178, Tryz.ntmps178
  go_wp2
  go_ret
  exact ⟨rfl, rfl⟩
set_option maxHeartbeats 400000 in
theorem wordByte_35 (w : World) :
    Calls Tryz.prog 178 #[.int .u8 35] w fun e w' => e = .returned (.bool (wordI 35)) ∧ w' = w := by
  have W : wordI 35 = true := by decide +kernel
  rw [W]
  clear W
  go_enter Tryz.func178, Tryz.ntmps178
  go_wp2
  go_ret
  exact ⟨rfl, rfl⟩
set_option maxHeartbeats 400000 in
theorem wordByte_36 (w : World) :
    Calls Tryz.prog 178 #[.int .u8 36] w fun e w' => e = .returned (.bool (wordI 36)) ∧ w' = w := by
  have W : wordI 36 = true := by decide +kernel
  rw [W]
  clear W
  go_enter Tryz.func178, Tryz.ntmps178
  go_wp2
  go_ret
  exact ⟨rfl, rfl⟩
set_option maxHeartbeats 400000 in
theorem wordByte_37 (w : World) :
    Calls Tryz.prog 178 #[.int .u8 37] w fun e w' => e = .returned (.bool (wordI 37)) ∧ w' = w := by
  have W : wordI 37 = true := by decide +kernel
  rw [W]
  clear W
  go_enter Tryz.func178, Tryz.ntmps178
  go_wp2
  go_ret
  exact ⟨rfl, rfl⟩
set_option maxHeartbeats 400000 in
theorem wordByte_38 (w : World) :
    Calls Tryz.prog 178 #[.int .u8 38] w fun e w' => e = .returned (.bool (wordI 38)) ∧ w' = w := by
  have W : wordI 38 = true := by decide +kernel
  rw [W]
  clear W
  go_enter Tryz.func178, Tryz.ntmps178
  go_wp2
  go_ret
  exact ⟨rfl, rfl⟩
set_option maxHeartbeats 400000 in
theorem wordByte_39 (w : World) :
    Calls Tryz.prog 178 #[.int .u8 39] w fun e w' => e = .returned (.bool (wordI 39)) ∧ w' = w := by
  have W : wordI 39 = true := by decide +kernel
  rw [W]
  clear W
  go_enter Tryz.func178, Tryz.ntmps178
  go_wp2
  go_ret
  exact ⟨rfl, rfl⟩
set_option maxHeartbeats 400000 in
theorem wordByte_42 (w : World) :
    Calls Tryz.prog 178 #[.int .u8 42] w fun e w' => e = .returned (.bool (wordI 42)) ∧ w' = w := by
  have W : wordI 42 = true := by decide +kernel
  rw [W]
  clear W
  go_enter Tryz.func178, Tryz.ntmps178
  go_wp2
  go_ret
  exact ⟨rfl, rfl⟩
set_option maxHeartbeats 400000 in
theorem wordByte_43 (w : World) :
    Calls Tryz.prog 178 #[.int .u8 43] w fun e w' => e = .returned (.bool (wordI 43)) ∧ w' = w := by
  have W : wordI 43 = true := by decide +kernel
  rw [W]
  clear W
  go_enter Tryz.func178, Tryz.ntmps178
  go_wp2
  go_ret
  exact ⟨rfl, rfl⟩
set_option maxHeartbeats 400000 in
theorem wordByte_45 (w : World) :
    Calls Tryz.prog 178 #[.int .u8 45] w fun e w' => e = .returned (.bool (wordI 45)) ∧ w' = w := by
  have W : wordI 45 = true := by decide +kernel
  rw [W]
  clear W
  go_enter Tryz.func178, Tryz.ntmps178
  go_wp2
  go_ret
  exact ⟨rfl, rfl⟩
set_option maxHeartbeats 400000 in
theorem wordByte_46 (w : World) :
    Calls Tryz.prog 178 #[.int .u8 46] w fun e w' => e = .returned (.bool (wordI 46)) ∧ w' = w := by
  have W : wordI 46 = true := by decide +kernel
  rw [W]
  clear W
  go_enter Tryz.func178, Tryz.ntmps178
  go_wp2
  go_ret
  exact ⟨rfl, rfl⟩
set_option maxHeartbeats 400000 in
theorem wordByte_94 (w : World) :
    Calls Tryz.prog 178 #[.int .u8 94] w fun e w' => e = .returned (.bool (wordI 94)) ∧ w' = w := by
  have W : wordI 94 = true := by decide +kernel
  rw [W]
  clear W
  go_enter Tryz.func178, Tryz.ntmps178
  go_wp2
  go_ret
  exact ⟨rfl, rfl⟩
set_option maxHeartbeats 400000 in
theorem wordByte_95 (w : World) :
    Calls Tryz.prog 178 #[.int .u8 95] w fun e w' => e = .returned (.bool (wordI 95)) ∧ w' = w := by
  have W : wordI 95 = true := by decide +kernel
  rw [W]
  clear W
  go_enter Tryz.func178, Tryz.ntmps178
  go_wp2
  go_ret
  exact ⟨rfl, rfl⟩
set_option maxHeartbeats 400000 in
theorem wordByte_124 (w : World) :
    Calls Tryz.prog 178 #[.int .u8 124] w fun e w' => e = .returned (.bool (wordI 124)) ∧ w' = w := by
  have W : wordI 124 = true := by decide +kernel
  rw [W]
  clear W
  go_enter Tryz.func178, Tryz.ntmps178
  go_wp2
  go_ret
  exact ⟨rfl, rfl⟩
set_option maxHeartbeats 400000 in
theorem wordByte_126 (w : World) :
    Calls Tryz.prog 178 #[.int .u8 126] w fun e w' => e = .returned (.bool (wordI 126)) ∧ w' = w := by
  have W : wordI 126 = true := by decide +kernel
  rw [W]
  clear W
  go_enter Tryz.func178, Tryz.ntmps178
  go_wp2
  go_ret
  exact ⟨rfl, rfl⟩
set_option maxHeartbeats 1000000 in
theorem wordByte_else (c : Int) (w : World) (h0 : 0 ≤ c) (h1 : c < 256) (hs : signI c.toNat = false) :
    Calls Tryz.prog 178 #[.int .u8 c] w fun e w' => e = .returned (.bool (wordI c)) ∧ w' = w := by
  have HE : Hid (wordI c = ((decide (97 ≤ c) && decide (c ≤ 122)) || (decide (65 ≤ c) && decide (c ≤ 90)) || (decide (48 ≤ c) && decide (c ≤ 57)))) := by
    show _ = _
    rw [wordI_eq c h0 h1, hs, Bool.false_or]
  obtain ⟨n, rfl⟩ := Int.eq_ofNat_of_zero_le h0
  simp only [Int.toNat_natCast, signI, List.contains_eq_mem, List.mem_cons, List.not_mem_nil, or_false, decide_eq_false_iff_not, not_or] at hs
  obtain ⟨s0, s1, s2, s3, s4, s5, s6, s7, s8, s9, s10, s11, s12, s13⟩ := hs
  have t0 : ((n : Int) == 33) = false := by simp; omega
  have t1 : ((n : Int) == 35) = false := by simp; omega
  have t2 : ((n : Int) == 36) = false := by simp; omega
  have t3 : ((n : Int) == 37) = false := by simp; omega
  have t4 : ((n : Int) == 38) = false := by simp; omega
  have t5 : ((n : Int) == 39) = false := by simp; omega
  have t6 : ((n : Int) == 42) = false := by simp; omega
  have t7 : ((n : Int) == 43) = false := by simp; omega
  have t8 : ((n : Int) == 45) = false := by simp; omega
  have t9 : ((n : Int) == 46) = false := by simp; omega
  have t10 : ((n : Int) == 94) = false := by simp; omega
  have t11 : ((n : Int) == 95) = false := by simp; omega
  have t12 : ((n : Int) == 124) = false := by simp; omega
  have t13 : ((n : Int) == 126) = false := by simp; omega
  clear s0 s1 s2 s3 s4 s5 s6 s7 s8 s9 s10 s11 s12 s13
  generalize (n : Int) = c at *
  clear n
  have key : ∀ b : Bool, wordI c = b → Ending.returned (.bool b) = .returned (.bool (wordI c)) := fun b h => by rw [h]
  have KEY : Hid (∀ b : Bool, wordI c = b → Ending.returned (.bool b) = .returned (.bool (wordI c))) := key
  clear key
  by_cases c1 : c < 48
  · have W : Hid (wordI c = false) := by
      show _ = _
      rw [HE.out]; simp; omega
    go_enter Tryz.func178, Tryz.ntmps178
    go_wp2
    go_ret
    exact ⟨KEY.out _ W.out, rfl⟩
  by_cases c2 : c ≤ 57
  · have W : Hid (wordI c = true) := by
      show _ = _
      rw [HE.out]; simp; omega
    have d1 : decide (c ≤ 57) = true := by simpa using c2
    go_enter Tryz.func178, Tryz.ntmps178
    go_wp2
    go_ret
    exact ⟨KEY.out _ W.out, rfl⟩
  have d2 : decide (c ≤ 57) = false := by simpa using c2
  by_cases c3 : c < 65
  · have W : Hid (wordI c = false) := by
      show _ = _
      rw [HE.out]; simp; omega
    go_enter Tryz.func178, Tryz.ntmps178
    go_wp2
    go_ret
    exact ⟨KEY.out _ W.out, rfl⟩
  by_cases c4 : c ≤ 90
  · have W : Hid (wordI c = true) := by
      show _ = _
      rw [HE.out]; simp; omega
    have d1 : decide (c ≤ 90) = true := by simpa using c4
    go_enter Tryz.func178, Tryz.ntmps178
    go_wp2
    go_ret
    exact ⟨KEY.out _ W.out, rfl⟩
  have d4 : decide (c ≤ 90) = false := by simpa using c4
  by_cases c5 : c < 97
  · have W : Hid (wordI c = false) := by
      show _ = _
      rw [HE.out]; simp; omega
    go_enter Tryz.func178, Tryz.ntmps178
    go_wp2
    go_ret
    exact ⟨KEY.out _ W.out, rfl⟩
  by_cases c6 : c ≤ 122
  · have W : Hid (wordI c = true) := by
      show _ = _
      rw [HE.out]; simp; omega
    have d1 : decide (c ≤ 122) = true := by simpa using c6
    go_enter Tryz.func178, Tryz.ntmps178
    go_wp2
    go_ret
    exact ⟨KEY.out _ W.out, rfl⟩
  have d6 : decide (c ≤ 122) = false := by simpa using c6
  have W : Hid (wordI c = false) := by
    show _ = _
    rw [HE.out]; simp; omega
  go_enter Tryz.func178, Tryz.ntmps178
  go_wp2
  go_ret
  exact ⟨KEY.out _ W.out, rfl⟩
theorem wordByte_any (c : Int) (w : World) (h0 : 0 ≤ c) (h1 : c < 256) :
    Calls Tryz.prog 178 #[.int .u8 c] w fun e w' => e = .returned (.bool (wordI c)) ∧ w' = w := by
  cases h : signI c.toNat
  · exact wordByte_else c w h0 h1 h
  · obtain ⟨n, rfl⟩ := Int.eq_ofNat_of_zero_le h0
    simp only [Int.toNat_natCast, signI, List.contains_eq_mem, List.mem_cons, List.not_mem_nil, or_false, decide_eq_true_eq] at h
    rcases h with rfl | rfl | rfl | rfl | rfl | rfl | rfl | rfl | rfl | rfl | rfl | rfl | rfl | rfl
    · exact wordByte_33 w
    · exact wordByte_35 w
    · exact wordByte_36 w
    · exact wordByte_37 w
    · exact wordByte_38 w
    · exact wordByte_39 w
    · exact wordByte_42 w
    · exact wordByte_43 w
    · exact wordByte_45 w
    · exact wordByte_46 w
    · exact wordByte_94 w
    · exact wordByte_95 w
    · exact wordByte_124 w
    · exact wordByte_126 w
end Go.Proofs.YtolkgnnjocmkdaaGreatDoor
