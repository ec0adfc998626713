/-
  Flights, handed over by the laws: how much room they take.
-/
import Derived.Test.YtgejegmilkmiiaaFlAt
import Derived.Test.YtgejegmilkmiiaaElev
import Derived.Lib.QuietBelow
import Derived.Deep.RegionWith
import Derived.BigQuiet
namespace Go.Proofs.Ytgejegmilkmiiaa
open Go.ChangeShapes Go.WideShapes Go.ChangeAt Go.RowKit Go.Sort
/-- How much room is left behind a flight; -1: none. -/
def szF (left : Int) (key m h p : ByteArray) (hs : List Hdr) (n : Nat) : Int :=
  if left - (key.size : Int) < 0 then -1 else
  if szRq (left - (key.size : Int)) m h p hs < 0 then -1 else
  if szRq (left - (key.size : Int)) m h p hs - (n : Int) < 0 then -1 else szRq (left - (key.size : Int)) m h p hs - (n : Int)
theorem szF_room {left : Int} {key m h p : ByteArray} {hs : List Hdr} {n : Nat} (h1 : left ≤ 1048576) (hz : ¬ szF left key m h p hs n < 0) : key.size ≤ 1048576 ∧ m.size ≤ 1048576 ∧ h.size ≤ 1048576 ∧ p.size ≤ 1048576 ∧ hs.length ≤ 1048576 ∧ n ≤ 1048576 ∧ szF left key m h p hs n ≤ left := by
  unfold szF at hz ⊢
  by_cases c1 : left - (key.size : Int) < 0
  · rw [if_pos c1] at hz; omega
  rw [if_neg c1] at hz ⊢
  by_cases c2 : szRq (left - (key.size : Int)) m h p hs < 0
  · rw [if_pos c2] at hz; omega
  rw [if_neg c2] at hz ⊢
  by_cases c3 : szRq (left - (key.size : Int)) m h p hs - (n : Int) < 0
  · rw [if_pos c3] at hz; omega
  rw [if_neg c3]
  obtain ⟨a1, a2, a3, a4, a5⟩ := szRq_room (by omega) c2
  exact ⟨by omega, a1, a2, a3, a4, by omega, by omega⟩
set_option maxHeartbeats 4000000 in
theorem szFlight_any (w : World) (id : Int) (key : ByteArray) (bk ot : Bool) (du : Int) (dm : Bool) (m h p : ByteArray) (ha : Option Addr) (hc : Nat) (wa : Option Addr) (wc : Nat) (hs : List Hdr) (ws : List Wr) (left : Int) (h0 : 0 ≤ left) (h1 : left ≤ 1048576) (hk : key.size ≤ maxLen) (z1 : m.size ≤ maxLen) (z2 : h.size ≤ maxLen) (z3 : p.size ≤ maxLen) (hhl : hs.length ≤ maxLen) (hsm : SmallHdrs hs) (hwl : ws.length ≤ maxLen) (hH : HdsIn w ha hs) :
    Calls Try.prog 9 #[.agg #[.int .i64 id, .string key, .bool bk, .bool ot, .int .i64 du, .bool dm, .string m, .string h, .string p, .slice ha hs.length hc, .slice wa ws.length wc], .int .i64 left] w fun r w' => r = .returned (.int .i64 (szF left key m h p hs ws.length)) ∧ Below w.heap.size w w' := by
  have HZH : Hid (∀ W left', Below w.heap.size w W → 0 ≤ left' → left' ≤ 1048576 → Calls Try.prog 16 #[.agg #[.string m, .string h, .string p, .slice ha hs.length hc], .int .i64 left'] W fun r w' => r = .returned (.int .i64 (szRq left' m h p hs)) ∧ Below W.heap.size W w') := fun W left' hb a b => szRequest_any W m h p ha hc hs z1 z2 z3 hhl hsm (hH.keep hb) left' a b
  have HZB : Hid (∀ W left', 0 ≤ left' → left' ≤ 1048576 → Calls Try.prog 17 #[.slice wa ws.length wc, .int .i64 left'] W fun r w' => r = .returned (.int .i64 (szWr left' ws.length)) ∧ w' = W) := fun W left' a b => szWr_any W wa wc ws.length hwl left' a b
  have HLE : Hid (¬ szRq (left - (key.size : Int)) m h p hs < 0 → szRq (left - (key.size : Int)) m h p hs ≤ left - (key.size : Int)) := fun c => (szRq_room (by omega) c).2.2.2.2
  have HB0 : Hid (Below w.heap.size w (w.alloc (.cells #[.int .i64 id, .string key, .bool bk, .bool ot, .int .i64 du, .bool dm, .string m, .string h, .string p, .slice ha hs.length hc, .slice wa ws.length wc] 34))) := (Below.refl _ _).alloc (Nat.le_refl _) _
  have HC0 : Hid (E11 (w.alloc (.cells #[.int .i64 id, .string key, .bool bk, .bool ot, .int .i64 du, .bool dm, .string m, .string h, .string p, .slice ha hs.length hc, .slice wa ws.length wc] 34)) w.heap.size (.int .i64 id) (.string key) (.bool bk) (.bool ot) (.int .i64 du) (.bool dm) (.string m) (.string h) (.string p) (.slice ha hs.length hc) (.slice wa ws.length wc)) := E11.new w _ _ _ _ _ _ _ _ _ _ _ _
  unfold maxLen at hk
  obtain ⟨Z, hZ⟩ : ∃ Z, szF left key m h p hs ws.length = Z := ⟨_, rfl⟩
  rw [hZ]
  unfold szF at hZ
  have HSZ : Hid (_ = Z) := hZ
  clear hZ
  clear hH hsm hhl z1 z2 z3 hwl
  generalize hz1 : szRq (left - (key.size : Int)) m h p hs = y1 at *
  generalize hs.length = hl at *
  generalize ws.length = wn at *
  by_cases c1 : left - (key.size : Int) < 0
  · have HR := HSZ.out
    rw [if_pos c1] at HR
    rw [← HR]
    clear HSZ HR HLE
    go_enter Try.func9, Try.ntmps9
    go_wp2_with fail
    go_ret
    exact ⟨rfl, HB0.out⟩
  rw [if_neg c1] at HSZ
  by_cases c2 : y1 < 0
  · have HR := HSZ.out
    rw [if_pos c2] at HR
    rw [← HR]
    clear HSZ HR HLE
    go_enter Try.func9, Try.ntmps9
    go_wp2_with fail
    refine (HZH.out _ _ HB0.out (by omega) (by omega)).mono ?_
    rintro r w1 ⟨rfl, hb1⟩
    rw [hz1]
    have HB1 : Hid (Below w.heap.size w w1) := HB0.out.trans (hb1.mono HB0.out.size)
    clear hb1
    go_wp2_with fail
    go_ret
    exact ⟨rfl, HB1.out⟩
  rw [if_neg c2] at HSZ
  have hle := HLE.out c2
  have HZ1 : Hid (szRq (left - (key.size : Int)) m h p hs = y1) := hz1
  clear HLE hz1
  have HW : Hid (szWr y1 wn = Z) := by show _ = _; rw [← HSZ.out]; unfold szWr; rfl
  clear HSZ
  go_enter Try.func9, Try.ntmps9
  go_wp2_with fail
  refine (HZH.out _ _ HB0.out (by omega) (by omega)).mono ?_
  rintro r w1 ⟨rfl, hb1⟩
  rw [HZ1.out]
  have HB1 : Hid (Below w.heap.size w w1) := HB0.out.trans (hb1.mono HB0.out.size)
  have HC1 := HC0.out.keep hb1
  have q3 := HC1.c10
  clear hb1 HC1
  go_wp2_with fail
  refine (HZB.out _ _ (by omega) (by omega)).mono ?_
  rintro r w2 ⟨rfl, rfl⟩
  rw [HW.out]
  have hZ : Z = if y1 - (wn : Int) < 0 then -1 else y1 - (wn : Int) := by rw [← HW.out]; rfl
  by_cases c3 : y1 - (wn : Int) < 0
  · rw [if_pos c3] at hZ
    subst hZ
    go_wp2_with fail
    go_ret
    exact ⟨rfl, HB1.out⟩
  · rw [if_neg c3] at hZ
    have hz0 : ¬ Z < 0 := by omega
    clear HW HZ1 hZ
    go_wp2_with fail
    go_ret
    exact ⟨rfl, HB1.out⟩
theorem szFlight_q (w : World) (q : Fl × FlR) (left : Int) (h0 : 0 ≤ left) (h1 : left ≤ 1048576) (hs : FlSm q.1) (hi : FlIn w q.1 q.2) :
    Calls Try.prog 9 #[.agg #[.int .i64 q.1.id, .string q.1.key, .bool q.1.bk, .bool q.1.ot, .int .i64 q.1.du, .bool q.1.dm, .string q.1.m, .string q.1.h, .string q.1.p, .slice q.2.ha q.1.hs.length q.2.hc, .slice q.2.wa q.1.ws.length q.2.wc], .int .i64 left] w fun e w' => e = .returned (.int .i64 (szF left q.1.key q.1.m q.1.h q.1.p q.1.hs q.1.ws.length)) ∧ Below w.heap.size w w' :=
  szFlight_any w _ _ _ _ _ _ _ _ _ _ _ _ _ _ _ left h0 h1 hs.key hs.m hs.h hs.p hs.hl hs.hs hs.wl hi.h
def szFs (c : Int) : List (Fl × FlR) → Int
  | [] => c
  | q :: l => if szF c q.1.key q.1.m q.1.h q.1.p q.1.hs q.1.ws.length < 0 then -1 else szFs (szF c q.1.key q.1.m q.1.h q.1.p q.1.hs q.1.ws.length) l
def szFL (left : Int) (l : List (Fl × FlR)) : Int := if left - (l.length : Int) < 0 then -1 else szFs (left - (l.length : Int)) l
set_option maxHeartbeats 4000000 in
theorem szFlightS_any (w : World) (a : Option Addr) (cap : Nat) (l : List (Fl × FlR)) (hl : l.length ≤ maxLen) (hi : FlsIn w a l) (hz : ∀ q ∈ l, FlSm q.1) (left : Int) (h0 : 0 ≤ left) (h1 : left ≤ 1048576) :
    Calls Try.prog 4 #[.slice a l.length cap, .int .i64 left] w fun e w' => e = .returned (.int .i64 (szFL left l)) ∧ Below w.heap.size w w' := by
  unfold maxLen at hl
  have HI : Hid (FlsIn w a l) := hi
  have HZ : Hid (∀ q ∈ l, FlSm q.1) := hz
  clear hi hz
  generalize hn : l.length = n at *
  have HN : Hid (l.length = n) := hn
  by_cases c0 : left - (n : Int) < 0
  · have HE : Hid (szFL left l = -1) := by show _ = _; unfold szFL; rw [hn, if_pos c0]
    clear hn
    go_enter Try.func4, Try.ntmps4
    go_wp2
    go_ret
    exact ⟨ret_int HE.out.symm, Below.refl _ _⟩
  have HE : Hid (szFL left l = szFs (left - (n : Int)) l) := by show _ = _; unfold szFL; rw [hn, if_neg c0]
  have c0' : 0 ≤ left - (n : Int) := by omega
  clear hn
  go_enter Try.func4, Try.ntmps4
  go_wp2_with fail
  go_loopw [1, 5] (fun x i wr => ∃ (k : Nat) (c : Int), k ≤ n ∧ i = .int .i64 k ∧ x = .int .i64 c ∧ 0 ≤ c ∧ c ≤ 1048576 ∧ szFL left l = szFs c (l.drop k) ∧ Below w.heap.size w wr) (fun _ i _ => n - (intOf i).toNat)
  case atStart => exact ⟨0, left - (n : Int), Nat.zero_le _, rfl, rfl, c0', by omega, HE.out, Below.refl _ _⟩
  case round =>
    obtain ⟨k, c, hk, rfl, rfl, c2, c3, hs, hb⟩ := hrel
    have HS : Hid (szFL left l = szFs c (l.drop k)) := hs
    clear hs HE
    by_cases hlt : k < n
    · obtain ⟨q, hr⟩ : ∃ r, l[k]? = some r := ⟨l[k]'(by have := HN.out; omega), List.getElem?_eq_getElem _⟩
      rcases HI.out with h | ⟨b, off, rfl, hat⟩
      · subst h; simp at hr
      have PC := (hat.keep hb).cells hr
      have C : Hid (Calls Try.prog 9 #[.agg #[.int .i64 q.1.id, .string q.1.key, .bool q.1.bk, .bool q.1.ot, .int .i64 q.1.du, .bool q.1.dm, .string q.1.m, .string q.1.h, .string q.1.p, .slice q.2.ha q.1.hs.length q.2.hc, .slice q.2.wa q.1.ws.length q.2.wc], .int .i64 c] wr fun r w' => r = .returned (.int .i64 (szF c q.1.key q.1.m q.1.h q.1.p q.1.hs q.1.ws.length)) ∧ Below wr.heap.size wr w') := szFlight_q wr q c c2 c3 (HZ.out q (List.mem_of_getElem? hr)) ((hat.keep hb).in hr)
      have HS2 : Hid (szFL left l = if szF c q.1.key q.1.m q.1.h q.1.p q.1.hs q.1.ws.length < 0 then -1 else szFs (szF c q.1.key q.1.m q.1.h q.1.p q.1.hs q.1.ws.length) (l.drop (k + 1))) := by
        show _ = _
        obtain ⟨hk2, hr2⟩ := List.getElem?_eq_some_iff.1 hr
        rw [HS.out, List.drop_eq_getElem_cons hk2, hr2, szFs]
      have HLE : Hid (¬ szF c q.1.key q.1.m q.1.h q.1.p q.1.hs q.1.ws.length < 0 → szF c q.1.key q.1.m q.1.h q.1.p q.1.hs q.1.ws.length ≤ c) := fun h => (szF_room c3 h).2.2.2.2.2.2
      have g : (k : Int) < n := by omega
      have HB : Hid (Below w.heap.size w wr) := hb
      clear HS hr hat HI HZ hb
      generalize szF c q.1.key q.1.m q.1.h q.1.p q.1.hs q.1.ws.length = z at *
      have p0 := PC.1
      have p1 := PC.2.1
      have p2 := PC.2.2.1
      have p3 := PC.2.2.2.1
      have p4 := PC.2.2.2.2.1
      have p5 := PC.2.2.2.2.2.1
      have p6 := PC.2.2.2.2.2.2.1
      have p7 := PC.2.2.2.2.2.2.2.1
      have p8 := PC.2.2.2.2.2.2.2.2.1
      have p9 := PC.2.2.2.2.2.2.2.2.2.1
      have p10 := PC.2.2.2.2.2.2.2.2.2.2
      clear PC
      obtain ⟨⟨id, key, bk, ot, du, dm, mt, ho, pa, hs, ws⟩, ⟨ha, hc, wa, wc⟩⟩ := q
      simp only at p0 p1 p2 p3 p4 p5 p6 p7 p8 p9 p10 C
      go_wp2_with fail
      refine C.out.mono ?_
      rintro r w2 ⟨rfl, hb2⟩
      have HB2 : Hid (Below w.heap.size w w2) := HB.out.trans (hb2.mono HB.out.size)
      clear hb2 p0 p1 p2 p3 p4 p5 p6 p7 p8 p9 p10 C HB
      by_cases hd : z < 0
      · have HF : Hid (szFL left l = -1) := by show _ = _; rw [HS2.out, if_pos hd]
        clear HS2
        go_wp2_with fail
        go_ret
        exact ⟨ret_int HF.out.symm, HB2.out⟩
      · have HF : Hid (szFL left l = szFs z (l.drop (k + 1))) := by show _ = _; rw [HS2.out, if_neg hd]
        have hle := HLE.out (by omega)
        clear HS2 HLE
        go_wp2_with fail
        go_roundw
        case rel => exact ⟨k + 1, z, by omega, by go_num, rfl, by omega, by omega, HF.out, HB2.out⟩
        case measure => simp [intOf]; omega
    · have HF : Hid (szFL left l = c) := by
        show _ = _
        rw [HS.out, List.drop_of_length_le (by have := HN.out; omega), szFs]
      clear HS
      go_wp2_with fail
      go_ret
      exact ⟨ret_int HF.out.symm, hb⟩
theorem szFs_room : ∀ (l : List (Fl × FlR)) (c : Int), c ≤ 1048576 → ¬ szFs c l < 0 → ∀ q ∈ l, FlFit q.1
  | [], _, _, _, q, hq => by simp at hq
  | x :: l, c, hc, hz, q, hq => by
    rw [szFs] at hz
    by_cases c1 : szF c x.1.key x.1.m x.1.h x.1.p x.1.hs x.1.ws.length < 0
    · rw [if_pos c1] at hz; omega
    rw [if_neg c1] at hz
    obtain ⟨a1, a2, a3, a4, a5, a6, a7⟩ := szF_room hc c1
    rcases List.mem_cons.1 hq with rfl | hq
    · exact ⟨a1, a2, a3, a4, a5, a6⟩
    · exact szFs_room l _ (by omega) hz q hq
theorem szFs_le : ∀ (l : List (Fl × FlR)) (c : Int), c ≤ 1048576 → ¬ szFs c l < 0 → szFs c l ≤ c
  | [], _, _, _ => by rw [szFs]; omega
  | x :: l, c, hc, hz => by
    rw [szFs] at hz ⊢
    by_cases c1 : szF c x.1.key x.1.m x.1.h x.1.p x.1.hs x.1.ws.length < 0
    · rw [if_pos c1] at hz; omega
    rw [if_neg c1] at hz ⊢
    obtain ⟨a1, a2, a3, a4, a5, a6, a7⟩ := szF_room hc c1
    have := szFs_le l _ (by omega) hz
    omega
theorem szFL_room {left : Int} {l : List (Fl × FlR)} (h1 : left ≤ 1048576) (hz : ¬ szFL left l < 0) : l.length ≤ 1048576 ∧ (∀ q ∈ l, FlFit q.1) ∧ szFL left l ≤ left ∧ 0 ≤ szFL left l := by
  unfold szFL at hz ⊢
  by_cases c : left - (l.length : Int) < 0
  · rw [if_pos c] at hz; omega
  rw [if_neg c] at hz ⊢
  have := szFs_le l _ (by omega) hz
  exact ⟨by omega, szFs_room l _ (by omega) hz, by omega, by omega⟩
end Go.Proofs.Ytgejegmilkmiiaa
