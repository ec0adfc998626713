/-
  The law of dates, out of contracts.
-/
import Derived.Test.YtibomkcbopkpkaaDoorDraw3Text
import Derived.Test.YtibomkcbopkpkaaDoorDateParD
import Derived.Test.YtibomkcbopkpkaaDoorDateBack
import Derived.Test.YtibomkcbopkpkaaDoorLawDateAt
namespace Go.Proofs.YtibomkcbopkpkaaDoor
open Go.ChangeShapes Go.WideShapes Go.ChangeAt Go.RowKit Go.Sort
open num
namespace dates
theorem dfield_code (c y m d h i s : Int) (w : World) : (Instr.field 52 (.agg #[.int .i64 c, .int .i64 y, .int .i64 m, .int .i64 d, .int .i64 h, .int .i64 i, .int .i64 s]) 0).run Tryd.prog w = .ok (.int .i64 c) w := by kernel_rfl
/-- A DateResult in memory. -/
structure Room7 (w : World) (b : Nat) (c y m d h i s : Int) : Prop where
  c0 : w.cell? ⟨b, 0, none⟩ = some (.int .i64 c)
  c1 : w.cell? ⟨b, 1, none⟩ = some (.int .i64 y)
  c2 : w.cell? ⟨b, 2, none⟩ = some (.int .i64 m)
  c3 : w.cell? ⟨b, 3, none⟩ = some (.int .i64 d)
  c4 : w.cell? ⟨b, 4, none⟩ = some (.int .i64 h)
  c5 : w.cell? ⟨b, 5, none⟩ = some (.int .i64 i)
  c6 : w.cell? ⟨b, 6, none⟩ = some (.int .i64 s)
theorem Room7.keep {w w' : World} {b : Nat} {c y m d h i s : Int} (k : Room7 w b c y m d h i s) (hb : Below w.heap.size w w') : Room7 w' b c y m d h i s := by
  have hl := block_lt_of_cell k.c0
  exact ⟨by rw [hb.cell (p := ⟨b, 0, none⟩) hl, k.c0], by rw [hb.cell (p := ⟨b, 1, none⟩) hl, k.c1], by rw [hb.cell (p := ⟨b, 2, none⟩) hl, k.c2], by rw [hb.cell (p := ⟨b, 3, none⟩) hl, k.c3], by rw [hb.cell (p := ⟨b, 4, none⟩) hl, k.c4], by rw [hb.cell (p := ⟨b, 5, none⟩) hl, k.c5], by rw [hb.cell (p := ⟨b, 6, none⟩) hl, k.c6]⟩
theorem room7_new (w : World) (c y m d h i s : Int) (t : TypeId) : Room7 (w.alloc (.cells #[.int .i64 c, .int .i64 y, .int .i64 m, .int .i64 d, .int .i64 h, .int .i64 i, .int .i64 s] t)) w.heap.size c y m d h i s :=
  ⟨by simp, by simp, by simp, by simp, by simp, by simp, by simp⟩
abbrev dv (y m d h i s : Int) : Value := .agg #[.int .i64 y, .int .i64 m, .int .i64 d, .int .i64 h, .int .i64 i, .int .i64 s]
/-- What is told of a date. -/
structure Dated (y m d h i s c v : Int) : Prop where
  si : ∀ w, Calls Tryd.prog 39 #[.agg #[.int .i64 y, .int .i64 m, .int .i64 d, .int .i64 h, .int .i64 i, .int .i64 s]] w fun e w' => e = .returned (.agg #[.int .i64 c, .int .i64 v]) ∧ Below w.heap.size w w'
  fi : ∀ w, Calls Tryd.prog 44 #[.agg #[.int .i64 y, .int .i64 m, .int .i64 d, .int .i64 h, .int .i64 i, .int .i64 s]] w fun e w' => e = .returned (.int .i64 c) ∧ Below w.heap.size w w'
  fs : ∀ w, Calls Tryd.prog 45 #[.agg #[.int .i64 y, .int .i64 m, .int .i64 d, .int .i64 h, .int .i64 i, .int .i64 s]] w fun e w' => e = .returned (.int .i64 c) ∧ Below w.heap.size w w'
/-- The date of seconds, handed back. -/
def Back (v y m d h i s : Int) : Prop := ∀ w, Calls Tryd.prog 41 #[.int .i64 v] w fun e w' => e = .returned (.agg #[.int .i64 0, .int .i64 y, .int .i64 m, .int .i64 d, .int .i64 h, .int .i64 i, .int .i64 s]) ∧ Below w.heap.size w w'
theorem dated (y m d h i s : Int) : ∃ c v, Dated y m d h i s c v ∧ ((c = 3 ∧ v = 0) ∨ (c = 0 ∧ Back v y m d h i s)) := by
  cases hk : dateB y m d h i s
  · refine ⟨3, 0, ⟨?_, ?_, ?_⟩, .inl ⟨rfl, rfl⟩⟩
    · have := implSecondsOf_any y m d h i s
      rw [dfC_no hk, soV_no hk] at this
      exact this
    · have := implFault_any y m d h i s
      rw [dfC_no hk] at this
      exact this
    · have := specFault_any y m d h i s
      rw [dfC_no hk] at this
      exact this
  · have ok := dateB_yes hk
    refine ⟨0, secsD y m d h i s, ⟨?_, ?_, ?_⟩, .inr ⟨rfl, ?_⟩⟩
    · have := implSecondsOf_any y m d h i s
      rw [dfC_yes hk, soV_yes hk] at this
      exact this
    · have := implFault_any y m d h i s
      rw [dfC_yes hk] at this
      exact this
    · have := specFault_any y m d h i s
      rw [dfC_yes hk] at this
      exact this
    · intro w
      have b := secsD_bd ok
      have := implAt_any (secsD y m d h i s) w b.1 b.2
      obtain ⟨e1, e2, e3, e4, e5, e6⟩ := date_is ok rfl
      rw [← e1, ← e2, ← e3, ← e4, ← e5, ← e6] at this
      exact this
/-- What is told of a number of seconds. -/
structure Placed (n c y m d h i s : Int) : Prop where
  ai : ∀ w, Calls Tryd.prog 41 #[.int .i64 n] w fun e w' => e = .returned (.agg #[.int .i64 c, .int .i64 y, .int .i64 m, .int .i64 d, .int .i64 h, .int .i64 i, .int .i64 s]) ∧ Below w.heap.size w w'
  sp : ∀ w, Calls Tryd.prog 46 #[.int .i64 n] w fun e w' => e = .returned (.agg #[.int .i64 c, .int .i64 y, .int .i64 m, .int .i64 d, .int .i64 h, .int .i64 i, .int .i64 s]) ∧ Below w.heap.size w w'
structure Known (n y m d h i s : Int) (t : ByteArray) : Prop where
  n0 : 0 ≤ n
  n1 : n ≤ 253402300799
  sec : ∀ w, Calls Tryd.prog 39 #[.agg #[.int .i64 y, .int .i64 m, .int .i64 d, .int .i64 h, .int .i64 i, .int .i64 s]] w fun e w' => e = .returned (.agg #[.int .i64 0, .int .i64 n]) ∧ Below w.heap.size w w'
  fmt : ∀ w, PowIs w → Calls Tryd.prog 48 #[.int .i64 n] w fun e w' => e = .returned (.agg #[.int .i64 0, .string t]) ∧ Below w.heap.size w w'
  par : ∀ w, PowIs w → Calls Tryd.prog 43 #[.string t] w fun e w' => e = .returned (.agg #[.int .i64 0, .int .i64 n]) ∧ Below w.heap.size w w'
  size : t.size = 29
theorem placed (n : Int) : ∃ c y m d h i s t, Placed n c y m d h i s ∧ (c = 3 ∨ (c = 0 ∧ Known n y m d h i s t)) := by
  cases hk : knownB n
  · exact ⟨3, 0, 0, 0, 0, 0, 0, ⟨#[]⟩, ⟨fun w => implDateAt_bad n w hk, fun w => specDateAt_bad n w hk⟩, .inl rfl⟩
  · have ⟨h0, h1⟩ := knownB_yes hk
    refine ⟨0, dY n, dM n, dD n, dH n, dI n, dS n, fmtT n, ⟨fun w => implAt_any n w h0 h1, fun w => specDateAt_any n w h0 h1⟩, .inr ⟨rfl, h0, h1, ?_, ?_, ?_, fmt_size h0 h1⟩⟩
    · have ok := dateB_of (date_ok h0 h1)
      have := implSecondsOf_any (dY n) (dM n) (dD n) (dH n) (dI n) (dS n)
      rw [dfC_yes ok, soV_yes ok, date_secs h0 h1] at this
      exact this
    · exact fun w hp => implFormat_any n w h0 h1 hp
    · intro w hp
      have := implParseDate (fmtT n) w hp
      rw [(fmt_parse h0 h1).1, (fmt_parse h0 h1).2] at this
      exact this
/-- What is told of a text. -/
structure Read (t : ByteArray) (c v : Int) : Prop where
  pi : ∀ w, PowIs w → Calls Tryd.prog 43 #[.string t] w fun e w' => e = .returned (.agg #[.int .i64 c, .int .i64 v]) ∧ Below w.heap.size w w'
  ps : ∀ w, Calls Tryd.prog 47 #[.string t] w fun e w' => e = .returned (.agg #[.int .i64 c, .int .i64 v]) ∧ Below w.heap.size w w'
def Told (t : ByteArray) (v : Int) : Prop := ∀ w, PowIs w → Calls Tryd.prog 48 #[.int .i64 v] w fun e w' => e = .returned (.agg #[.int .i64 0, .string t]) ∧ Below w.heap.size w w'
theorem read (t : ByteArray) : ∃ c v, Read t c v ∧ (c = 5 ∨ (c = 0 ∧ Told t v)) := by
  rcases pd_or t with ⟨hz, m, hc⟩ | h
  · have e := pd_yes hz hc
    refine ⟨0, parS t m, ⟨fun w hp => ?_, fun w => ?_⟩, .inr ⟨rfl, fun w hp => ?_⟩⟩
    · have := implParseDate t w hp
      rw [e.1, e.2] at this
      exact this
    · have := specParseDate t w
      rw [e.1, e.2] at this
      exact this
    · have := implFormat_any (parS t m) w hc.bd.1 hc.bd.2 hp
      rw [hc.same] at this
      exact this
  · have e := pd_no h
    refine ⟨5, 0, ⟨fun w hp => ?_, fun w => ?_⟩, .inl rfl⟩
    · have := implParseDate t w hp
      rw [e.1, e.2] at this
      exact this
    · have := specParseDate t w
      rw [e.1, e.2] at this
      exact this
set_option maxRecDepth 100000 in
set_option maxHeartbeats 16000000 in
theorem fnDates_walk (w : World) (a : Option Addr) (len cap : Nat) (hc : CodeRow w w.heap.size a len) (hp : PowIs w) :
    Calls Tryd.prog 6 #[.slice a len cap] w fun e w' => e = .returned (.bool true) ∧ Below w.heap.size w w' := by
  have HC : Hid (∀ W, Below w.heap.size w W → CodeRow W W.heap.size a len) := fun W hb => (hc.below hb).mono hb.size
  have HP : Hid (∀ W, Below w.heap.size w W → PowIs W) := fun W hb => hp.below hb
  clear hc hp
  by_cases hbig : (1048576 : Int) < len
  · go_enter Tryd.func6, Tryd.ntmps6
    go_wp2
    go_ret
    exact ⟨rfl, Below.refl _ _⟩
  have hl2 : len ≤ 1048576 := by omega
  go_enter Tryd.func6, Tryd.ntmps6
  go_wp2_with (go_at_call 7; go_in)
  refine (drawSecondsOf_any w a len cap (HC.out _ (Below.refl _ _)) hl2).mono ?_
  rintro e w1 ⟨⟨y, m, d, h, i, s, rfl⟩, hb1⟩
  obtain ⟨sc, sv, HD, HDC⟩ : ∃ c v, Hid (Dated y m d h i s c v) ∧ Hid ((c = 3 ∧ v = 0) ∨ (c = 0 ∧ Back v y m d h i s)) := dated y m d h i s
  have B1 : Hid (Below w.heap.size w w1) := hb1
  clear hb1
  go_wp2_with fail
  refine (HD.out.si _).mono ?_
  rintro e w2 ⟨rfl, hb2⟩
  have B2 : Hid (Below w.heap.size w w2) := (B1.out.alloc B1.out.size _).trans (hb2.mono (by have := B1.out.size; simp; omega))
  have D2 : Hid (DateAtB w2 w1.heap.size y m d h i s) := (dateAtB_new w1 y m d h i s 48).keep hb2
  clear hb2 B1
  generalize w1.heap.size = Ld at *
  clear w1
  go_wp2_with fail
  refine (drawDateAt_any _ a len cap (HC.out _ (B2.out.alloc B2.out.size _)) hl2).mono ?_
  rintro e w3 ⟨⟨n, rfl⟩, hb3⟩
  have B3 : Hid (Below w.heap.size w w3) := (B2.out.alloc B2.out.size _).trans (hb3.mono (by have := B2.out.size; simp; omega))
  have D3 : Hid (DateAtB w3 Ld y m d h i s) := (D2.out.keep ((Below.refl _ _).alloc (Nat.le_refl _) _)).keep hb3
  have S3 : Hid (Room2 w3 w2.heap.size sc sv) := (room2_new w2 sc sv 32).keep hb3
  clear hb3 B2 D2
  generalize w2.heap.size = Ls at *
  clear w2
  obtain ⟨ac, ay, am, ad, ah, ai, as', ft, HA, HAC⟩ : ∃ c y m d h i s t, Hid (Placed n c y m d h i s) ∧ Hid (c = 3 ∨ (c = 0 ∧ Known n y m d h i s t)) := placed n
  go_wp2_with fail
  refine (HA.out.ai _).mono ?_
  rintro e w4 ⟨rfl, hb4⟩
  have B4 : Hid (Below w.heap.size w w4) := B3.out.trans (hb4.mono B3.out.size)
  have D4 : Hid (DateAtB w4 Ld y m d h i s) := D3.out.keep hb4
  have S4 : Hid (Room2 w4 Ls sc sv) := S3.out.keep hb4
  clear hb4 B3 D3 S3
  clear w3
  go_wp2_with fail
  refine (drawParseDate_any _ a len cap (HC.out _ (B4.out.alloc B4.out.size _)) hl2).mono ?_
  rintro e w5 ⟨⟨t, rfl⟩, hb5⟩
  have B5 : Hid (Below w.heap.size w w5) := (B4.out.alloc B4.out.size _).trans (hb5.mono (by have := B4.out.size; simp; omega))
  have D5 : Hid (DateAtB w5 Ld y m d h i s) := (D4.out.keep ((Below.refl _ _).alloc (Nat.le_refl _) _)).keep hb5
  have S5 : Hid (Room2 w5 Ls sc sv) := (S4.out.keep ((Below.refl _ _).alloc (Nat.le_refl _) _)).keep hb5
  have A5 : Hid (Room7 w5 w4.heap.size ac ay am ad ah ai as') := (room7_new w4 ac ay am ad ah ai as' 52).keep hb5
  clear hb5 B4 D4 S4
  generalize w4.heap.size = La at *
  clear w4
  obtain ⟨pc, pv, HR, HRC⟩ : ∃ c v, Hid (Read t c v) ∧ Hid (c = 5 ∨ (c = 0 ∧ Told t v)) := read t
  go_wp2_with fail
  refine (HR.out.pi _ (HP.out _ B5.out)).mono ?_
  rintro e w6 ⟨rfl, hb6⟩
  obtain ⟨W, hW⟩ : ∃ W, W = w6.alloc (.cells #[.int .i64 pc, .int .i64 pv] 32) := ⟨_, rfl⟩
  have K : Hid (Below w.heap.size w W ∧ DateAtB W Ld y m d h i s ∧ Room2 W Ls sc sv ∧ Room7 W La ac ay am ad ah ai as' ∧ Room2 W w6.heap.size pc pv) := by
    have b6 := B5.out.trans (hb6.mono B5.out.size)
    have al : Below w6.heap.size w6 W := by subst hW; exact (Below.refl _ _).alloc (Nat.le_refl _) _
    refine ⟨b6.trans (al.mono b6.size), (D5.out.keep hb6).keep al, (S5.out.keep hb6).keep al, (A5.out.keep hb6).keep al, ?_⟩
    subst hW
    exact room2_new w6 pc pv _
  have HWW : Hid (W = w6.alloc (.cells #[.int .i64 pc, .int .i64 pv] 32)) := hW
  clear hW hb6 B5 D5 S5 A5 HC
  go_wp2_with fail
  rw [← HWW.out]
  clear HWW
  generalize w6.heap.size = Lp at *
  clear w6
  obtain ⟨kB, kD, kS, kA, kP⟩ := K.out
  have d0 := cell_regrown kD.c0
  have d1 := cell_regrown kD.c1
  have d2 := cell_regrown kD.c2
  have d3 := cell_regrown kD.c3
  have d4 := cell_regrown kD.c4
  have d5 := cell_regrown kD.c5
  have s0 := cell_regrown kS.c0
  have s1 := cell_regrown kS.c1
  have a0 := cell_regrown kA.c0
  have p0 := cell_regrown kP.c0
  have p1 := cell_regrown kP.c1
  clear kB kD kS kA kP
  have cF : ∀ d' os, Calls Tryd.prog 44 #[.agg #[.int .i64 y, .int .i64 m, .int .i64 d, .int .i64 h, .int .i64 i, .int .i64 s]] (grow (redrawn W d') os) fun e w'' => e = .returned (.int .i64 sc) ∧ ∃ p : Regrown, w'' = grow (redrawn W p.d) p.os := fun d' os => Calls.regrown_of (HD.out.fi _)
  have cG : ∀ d' os, Calls Tryd.prog 45 #[.agg #[.int .i64 y, .int .i64 m, .int .i64 d, .int .i64 h, .int .i64 i, .int .i64 s]] (grow (redrawn W d') os) fun e w'' => e = .returned (.int .i64 sc) ∧ ∃ p : Regrown, w'' = grow (redrawn W p.d) p.os := fun d' os => Calls.regrown_of (HD.out.fs _)
  have cA : ∀ d' os, Calls Tryd.prog 46 #[.int .i64 n] (grow (redrawn W d') os) fun e w'' => e = .returned (.agg #[.int .i64 ac, .int .i64 ay, .int .i64 am, .int .i64 ad, .int .i64 ah, .int .i64 ai, .int .i64 as']) ∧ ∃ p : Regrown, w'' = grow (redrawn W p.d) p.os := fun d' os => Calls.regrown_of (HA.out.sp _)
  have cP : ∀ d' os, Calls Tryd.prog 47 #[.string t] (grow (redrawn W d') os) fun e w'' => e = .returned (.agg #[.int .i64 pc, .int .i64 pv]) ∧ ∃ p : Regrown, w'' = grow (redrawn W p.d) p.os := fun d' os => Calls.regrown_of (HR.out.ps _)
  have hdc := dfield_code
  refine wp_region_quiet_below (by kernel_rfl) (by kernel_rfl) ?_
  repeat (go_big_quiet_step (first | (go_at_call 44; exact cF _ _) | (go_at_call 45; exact cG _ _) | (go_at_call 46; exact cA _ _) | (go_at_call 47; exact cP _ _)))
  refine wpQuiet_nil ?_
  intro W2 hW2
  have hbW : Below W.heap.size W W2 := by
    obtain ⟨⟨d', os⟩, rfl⟩ := hW2
    exact below_regrown W d' os
  have K2 : Hid (Below w.heap.size w W2 ∧ DateAtB W2 Ld y m d h i s ∧ Room2 W2 Ls sc sv ∧ Room7 W2 La ac ay am ad ah ai as' ∧ Room2 W2 Lp pc pv) := ⟨K.out.1.trans (hbW.mono K.out.1.size), K.out.2.1.keep hbW, K.out.2.2.1.keep hbW, K.out.2.2.2.1.keep hbW, K.out.2.2.2.2.keep hbW⟩
  clear hW2 hbW K d0 d1 d2 d3 d4 d5 s0 s1 a0 p0 p1 cF cG cA cP hdc
  clear W
  go_wp2_with fail
  obtain ⟨kB, kD, kS, kA, kP⟩ := K2.out
  have d0 := cell_regrown kD.c0
  have d1 := cell_regrown kD.c1
  have d2 := cell_regrown kD.c2
  have d3 := cell_regrown kD.c3
  have d4 := cell_regrown kD.c4
  have d5 := cell_regrown kD.c5
  have s0 := cell_regrown kS.c0
  have s1 := cell_regrown kS.c1
  have p0 := cell_regrown kP.c0
  have p1 := cell_regrown kP.c1
  clear kB kD kS kA kP HD HR
  have hft := tfieldT
  rcases HRC.out with rfl | ⟨rfl, hT⟩
  · clear HRC
    rcases HDC.out with ⟨rfl, rfl⟩ | ⟨rfl, hB⟩
    · clear HDC
      refine wp_region_quiet_below (by kernel_rfl) (by kernel_rfl) ?_
      repeat (go_big_quiet_step (first | fail))
      refine wpQuiet_nil ?_
      intro W3 hW3
      have hbW : Below W2.heap.size W2 W3 := by
        obtain ⟨⟨d', os⟩, rfl⟩ := hW3
        exact below_regrown W2 d' os
      have K3 : Hid (Below w.heap.size w W3 ∧ Room7 W3 La ac ay am ad ah ai as') := ⟨K2.out.1.trans (hbW.mono K2.out.1.size), K2.out.2.2.2.1.keep hbW⟩
      clear hW3 hbW K2 d0 d1 d2 d3 d4 d5 s0 s1 p0 p1 hft
      clear W2
      obtain ⟨a0, a1, a2, a3, a4, a5, a6⟩ := K3.out.2
      rcases HAC.out with rfl | ⟨rfl, hk⟩
      · go_wp2_with fail
        go_ret
        exact ⟨rfl, K3.out.1⟩
      have HKN : Hid (Known n ay am ad ah ai as' ft) := hk
      have hn0 := hk.n0
      have hn1 := hk.n1
      have hsz : (ft.size : Int) = 29 := by have := hk.size; omega
      clear hk
      go_wp2_with fail
      refine (HKN.out.fmt _ (HP.out _ K3.out.1)).mono ?_
      rintro e w7 ⟨rfl, hb7⟩
      have K7 : Hid (Below w.heap.size w w7 ∧ Room7 w7 La 0 ay am ad ah ai as') := ⟨K3.out.1.trans (hb7.mono K3.out.1.size), K3.out.2.keep hb7⟩
      clear hb7 K3 a0 a1 a2 a3 a4 a5 a6
      obtain ⟨a0, a1, a2, a3, a4, a5, a6⟩ := K7.out.2
      have hLa : La < w7.heap.size := block_lt_of_cell a0
      go_wp2_with fail
      refine (HKN.out.sec _).mono ?_
      rintro e w9 ⟨rfl, hb9⟩
      have K9 : Hid (Below w.heap.size w w9 ∧ TRoom w9 w7.heap.size 0 ft) := ⟨(K7.out.1.alloc K7.out.1.size _).trans (hb9.mono (by have := K7.out.1.size; simp; omega)), (troom_new w7 0 ft 26).keep hb9⟩
      clear hb9 K7 a0 a1 a2 a3 a4 a5 a6 hLa
      generalize w7.heap.size = Lf at *
      clear w7
      obtain ⟨f0, f1, _, _⟩ := K9.out.2
      go_wp2_with fail
      refine (HKN.out.par _ (HP.out _ K9.out.1)).mono ?_
      rintro e w10 ⟨rfl, hb10⟩
      have K10 : Hid (Below w.heap.size w w10 ∧ TRoom w10 Lf 0 ft) := ⟨K9.out.1.trans (hb10.mono K9.out.1.size), K9.out.2.keep hb10⟩
      clear hb10 K9 f0 f1
      obtain ⟨f0, f1, _, _⟩ := K10.out.2
      by_cases hmax : 253402300799 < n + 86400
      · go_wp2_with fail
        go_ret
        exact ⟨rfl, K10.out.1⟩
      have HW1 := fun w => week_known (n := n + 86400) (by omega) (by omega) w
      have HW2 := fun w => week_known (n := n) hn0 hn1 w
      obtain ⟨x, hx, hx0, hx1⟩ : ∃ x : Int, (n / 86400 + 4) % 7 = x ∧ 0 ≤ x ∧ x < 7 := ⟨_, rfl, by omega, by omega⟩
      have hx2 : ((n + 86400) / 86400 + 4) % 7 = (x + 1) % 7 := by omega
      rw [hx] at HW2
      rw [hx2] at HW1
      have HW3 : Hid (∀ w, Calls Tryd.prog 49 #[.int .i64 (n + 86400)] w fun e w' => e = .returned (.agg #[.int .i64 0, .int .i64 ((x + 1) % 7)]) ∧ Below w.heap.size w w') := HW1
      have HW4 : Hid (∀ w, Calls Tryd.prog 49 #[.int .i64 n] w fun e w' => e = .returned (.agg #[.int .i64 0, .int .i64 x]) ∧ Below w.heap.size w w') := HW2
      clear HW1 HW2 hx hx2
      have hfv := ifield_val
      go_wp2_with fail
      refine (HW3.out _).mono ?_
      rintro e w11 ⟨rfl, hb11⟩
      have K11 : Hid (Below w.heap.size w w11) := K10.out.1.trans (hb11.mono K10.out.1.size)
      clear hb11 K10 f0 f1
      go_wp2_with fail
      refine (HW4.out _).mono ?_
      rintro e w12 ⟨rfl, hb12⟩
      have K12 : Hid (Below w.heap.size w w12) := K11.out.trans (hb12.mono K11.out.size)
      clear hb12 K11
      go_wp2_with fail
      go_ret
      exact ⟨rfl, K12.out⟩
    · have HBK : Hid (Back sv y m d h i s) := hB
      clear HDC hB
      have cB : ∀ d' os, Calls Tryd.prog 41 #[.int .i64 sv] (grow (redrawn W2 d') os) fun e w'' => e = .returned (.agg #[.int .i64 0, .int .i64 y, .int .i64 m, .int .i64 d, .int .i64 h, .int .i64 i, .int .i64 s]) ∧ ∃ p : Regrown, w'' = grow (redrawn W2 p.d) p.os := fun d' os => Calls.regrown_of (HBK.out _)
      refine wp_region_quiet_below (by kernel_rfl) (by kernel_rfl) ?_
      repeat (go_big_quiet_step (first | (go_at_call 41; exact cB _ _)))
      refine wpQuiet_nil ?_
      intro W3 hW3
      have hbW : Below W2.heap.size W2 W3 := by
        obtain ⟨⟨d', os⟩, rfl⟩ := hW3
        exact below_regrown W2 d' os
      have K3 : Hid (Below w.heap.size w W3 ∧ Room7 W3 La ac ay am ad ah ai as') := ⟨K2.out.1.trans (hbW.mono K2.out.1.size), K2.out.2.2.2.1.keep hbW⟩
      clear hW3 hbW K2 d0 d1 d2 d3 d4 d5 s0 s1 p0 p1 hft cB
      clear W2
      obtain ⟨a0, a1, a2, a3, a4, a5, a6⟩ := K3.out.2
      rcases HAC.out with rfl | ⟨rfl, hk⟩
      · go_wp2_with fail
        go_ret
        exact ⟨rfl, K3.out.1⟩
      have HKN : Hid (Known n ay am ad ah ai as' ft) := hk
      have hn0 := hk.n0
      have hn1 := hk.n1
      have hsz : (ft.size : Int) = 29 := by have := hk.size; omega
      clear hk
      go_wp2_with fail
      refine (HKN.out.fmt _ (HP.out _ K3.out.1)).mono ?_
      rintro e w7 ⟨rfl, hb7⟩
      have K7 : Hid (Below w.heap.size w w7 ∧ Room7 w7 La 0 ay am ad ah ai as') := ⟨K3.out.1.trans (hb7.mono K3.out.1.size), K3.out.2.keep hb7⟩
      clear hb7 K3 a0 a1 a2 a3 a4 a5 a6
      obtain ⟨a0, a1, a2, a3, a4, a5, a6⟩ := K7.out.2
      have hLa : La < w7.heap.size := block_lt_of_cell a0
      go_wp2_with fail
      refine (HKN.out.sec _).mono ?_
      rintro e w9 ⟨rfl, hb9⟩
      have K9 : Hid (Below w.heap.size w w9 ∧ TRoom w9 w7.heap.size 0 ft) := ⟨(K7.out.1.alloc K7.out.1.size _).trans (hb9.mono (by have := K7.out.1.size; simp; omega)), (troom_new w7 0 ft 26).keep hb9⟩
      clear hb9 K7 a0 a1 a2 a3 a4 a5 a6 hLa
      generalize w7.heap.size = Lf at *
      clear w7
      obtain ⟨f0, f1, _, _⟩ := K9.out.2
      go_wp2_with fail
      refine (HKN.out.par _ (HP.out _ K9.out.1)).mono ?_
      rintro e w10 ⟨rfl, hb10⟩
      have K10 : Hid (Below w.heap.size w w10 ∧ TRoom w10 Lf 0 ft) := ⟨K9.out.1.trans (hb10.mono K9.out.1.size), K9.out.2.keep hb10⟩
      clear hb10 K9 f0 f1
      obtain ⟨f0, f1, _, _⟩ := K10.out.2
      by_cases hmax : 253402300799 < n + 86400
      · go_wp2_with fail
        go_ret
        exact ⟨rfl, K10.out.1⟩
      have HW1 := fun w => week_known (n := n + 86400) (by omega) (by omega) w
      have HW2 := fun w => week_known (n := n) hn0 hn1 w
      obtain ⟨x, hx, hx0, hx1⟩ : ∃ x : Int, (n / 86400 + 4) % 7 = x ∧ 0 ≤ x ∧ x < 7 := ⟨_, rfl, by omega, by omega⟩
      have hx2 : ((n + 86400) / 86400 + 4) % 7 = (x + 1) % 7 := by omega
      rw [hx] at HW2
      rw [hx2] at HW1
      have HW3 : Hid (∀ w, Calls Tryd.prog 49 #[.int .i64 (n + 86400)] w fun e w' => e = .returned (.agg #[.int .i64 0, .int .i64 ((x + 1) % 7)]) ∧ Below w.heap.size w w') := HW1
      have HW4 : Hid (∀ w, Calls Tryd.prog 49 #[.int .i64 n] w fun e w' => e = .returned (.agg #[.int .i64 0, .int .i64 x]) ∧ Below w.heap.size w w') := HW2
      clear HW1 HW2 hx hx2
      have hfv := ifield_val
      go_wp2_with fail
      refine (HW3.out _).mono ?_
      rintro e w11 ⟨rfl, hb11⟩
      have K11 : Hid (Below w.heap.size w w11) := K10.out.1.trans (hb11.mono K10.out.1.size)
      clear hb11 K10 f0 f1
      go_wp2_with fail
      refine (HW4.out _).mono ?_
      rintro e w12 ⟨rfl, hb12⟩
      have K12 : Hid (Below w.heap.size w w12) := K11.out.trans (hb12.mono K11.out.size)
      clear hb12 K11
      go_wp2_with fail
      go_ret
      exact ⟨rfl, K12.out⟩
  · have HTL : Hid (Told t pv) := hT
    clear HRC hT
    rcases HDC.out with ⟨rfl, rfl⟩ | ⟨rfl, hB⟩
    · clear HDC
      have cT : ∀ d' os, Calls Tryd.prog 48 #[.int .i64 pv] (grow (redrawn W2 d') os) fun e w'' => e = .returned (.agg #[.int .i64 0, .string t]) ∧ ∃ p : Regrown, w'' = grow (redrawn W2 p.d) p.os := fun d' os => Calls.regrown_of (HTL.out _ (HP.out _ (K2.out.1.trans ((below_regrown W2 d' os).mono K2.out.1.size))))
      refine wp_region_quiet_below (by kernel_rfl) (by kernel_rfl) ?_
      repeat (go_big_quiet_step (first | (go_at_call 48; exact cT _ _)))
      refine wpQuiet_nil ?_
      intro W3 hW3
      have hbW : Below W2.heap.size W2 W3 := by
        obtain ⟨⟨d', os⟩, rfl⟩ := hW3
        exact below_regrown W2 d' os
      have K3 : Hid (Below w.heap.size w W3 ∧ Room7 W3 La ac ay am ad ah ai as') := ⟨K2.out.1.trans (hbW.mono K2.out.1.size), K2.out.2.2.2.1.keep hbW⟩
      clear hW3 hbW K2 d0 d1 d2 d3 d4 d5 s0 s1 p0 p1 hft cT
      clear W2
      obtain ⟨a0, a1, a2, a3, a4, a5, a6⟩ := K3.out.2
      rcases HAC.out with rfl | ⟨rfl, hk⟩
      · go_wp2_with fail
        go_ret
        exact ⟨rfl, K3.out.1⟩
      have HKN : Hid (Known n ay am ad ah ai as' ft) := hk
      have hn0 := hk.n0
      have hn1 := hk.n1
      have hsz : (ft.size : Int) = 29 := by have := hk.size; omega
      clear hk
      go_wp2_with fail
      refine (HKN.out.fmt _ (HP.out _ K3.out.1)).mono ?_
      rintro e w7 ⟨rfl, hb7⟩
      have K7 : Hid (Below w.heap.size w w7 ∧ Room7 w7 La 0 ay am ad ah ai as') := ⟨K3.out.1.trans (hb7.mono K3.out.1.size), K3.out.2.keep hb7⟩
      clear hb7 K3 a0 a1 a2 a3 a4 a5 a6
      obtain ⟨a0, a1, a2, a3, a4, a5, a6⟩ := K7.out.2
      have hLa : La < w7.heap.size := block_lt_of_cell a0
      go_wp2_with fail
      refine (HKN.out.sec _).mono ?_
      rintro e w9 ⟨rfl, hb9⟩
      have K9 : Hid (Below w.heap.size w w9 ∧ TRoom w9 w7.heap.size 0 ft) := ⟨(K7.out.1.alloc K7.out.1.size _).trans (hb9.mono (by have := K7.out.1.size; simp; omega)), (troom_new w7 0 ft 26).keep hb9⟩
      clear hb9 K7 a0 a1 a2 a3 a4 a5 a6 hLa
      generalize w7.heap.size = Lf at *
      clear w7
      obtain ⟨f0, f1, _, _⟩ := K9.out.2
      go_wp2_with fail
      refine (HKN.out.par _ (HP.out _ K9.out.1)).mono ?_
      rintro e w10 ⟨rfl, hb10⟩
      have K10 : Hid (Below w.heap.size w w10 ∧ TRoom w10 Lf 0 ft) := ⟨K9.out.1.trans (hb10.mono K9.out.1.size), K9.out.2.keep hb10⟩
      clear hb10 K9 f0 f1
      obtain ⟨f0, f1, _, _⟩ := K10.out.2
      by_cases hmax : 253402300799 < n + 86400
      · go_wp2_with fail
        go_ret
        exact ⟨rfl, K10.out.1⟩
      have HW1 := fun w => week_known (n := n + 86400) (by omega) (by omega) w
      have HW2 := fun w => week_known (n := n) hn0 hn1 w
      obtain ⟨x, hx, hx0, hx1⟩ : ∃ x : Int, (n / 86400 + 4) % 7 = x ∧ 0 ≤ x ∧ x < 7 := ⟨_, rfl, by omega, by omega⟩
      have hx2 : ((n + 86400) / 86400 + 4) % 7 = (x + 1) % 7 := by omega
      rw [hx] at HW2
      rw [hx2] at HW1
      have HW3 : Hid (∀ w, Calls Tryd.prog 49 #[.int .i64 (n + 86400)] w fun e w' => e = .returned (.agg #[.int .i64 0, .int .i64 ((x + 1) % 7)]) ∧ Below w.heap.size w w') := HW1
      have HW4 : Hid (∀ w, Calls Tryd.prog 49 #[.int .i64 n] w fun e w' => e = .returned (.agg #[.int .i64 0, .int .i64 x]) ∧ Below w.heap.size w w') := HW2
      clear HW1 HW2 hx hx2
      have hfv := ifield_val
      go_wp2_with fail
      refine (HW3.out _).mono ?_
      rintro e w11 ⟨rfl, hb11⟩
      have K11 : Hid (Below w.heap.size w w11) := K10.out.1.trans (hb11.mono K10.out.1.size)
      clear hb11 K10 f0 f1
      go_wp2_with fail
      refine (HW4.out _).mono ?_
      rintro e w12 ⟨rfl, hb12⟩
      have K12 : Hid (Below w.heap.size w w12) := K11.out.trans (hb12.mono K11.out.size)
      clear hb12 K11
      go_wp2_with fail
      go_ret
      exact ⟨rfl, K12.out⟩
    · have HBK : Hid (Back sv y m d h i s) := hB
      clear HDC hB
      have cT : ∀ d' os, Calls Tryd.prog 48 #[.int .i64 pv] (grow (redrawn W2 d') os) fun e w'' => e = .returned (.agg #[.int .i64 0, .string t]) ∧ ∃ p : Regrown, w'' = grow (redrawn W2 p.d) p.os := fun d' os => Calls.regrown_of (HTL.out _ (HP.out _ (K2.out.1.trans ((below_regrown W2 d' os).mono K2.out.1.size))))
      have cB : ∀ d' os, Calls Tryd.prog 41 #[.int .i64 sv] (grow (redrawn W2 d') os) fun e w'' => e = .returned (.agg #[.int .i64 0, .int .i64 y, .int .i64 m, .int .i64 d, .int .i64 h, .int .i64 i, .int .i64 s]) ∧ ∃ p : Regrown, w'' = grow (redrawn W2 p.d) p.os := fun d' os => Calls.regrown_of (HBK.out _)
      refine wp_region_quiet_below (by kernel_rfl) (by kernel_rfl) ?_
      repeat (go_big_quiet_step (first | (go_at_call 48; exact cT _ _) | (go_at_call 41; exact cB _ _)))
      refine wpQuiet_nil ?_
      intro W3 hW3
      have hbW : Below W2.heap.size W2 W3 := by
        obtain ⟨⟨d', os⟩, rfl⟩ := hW3
        exact below_regrown W2 d' os
      have K3 : Hid (Below w.heap.size w W3 ∧ Room7 W3 La ac ay am ad ah ai as') := ⟨K2.out.1.trans (hbW.mono K2.out.1.size), K2.out.2.2.2.1.keep hbW⟩
      clear hW3 hbW K2 d0 d1 d2 d3 d4 d5 s0 s1 p0 p1 hft cT cB
      clear W2
      obtain ⟨a0, a1, a2, a3, a4, a5, a6⟩ := K3.out.2
      rcases HAC.out with rfl | ⟨rfl, hk⟩
      · go_wp2_with fail
        go_ret
        exact ⟨rfl, K3.out.1⟩
      have HKN : Hid (Known n ay am ad ah ai as' ft) := hk
      have hn0 := hk.n0
      have hn1 := hk.n1
      have hsz : (ft.size : Int) = 29 := by have := hk.size; omega
      clear hk
      go_wp2_with fail
      refine (HKN.out.fmt _ (HP.out _ K3.out.1)).mono ?_
      rintro e w7 ⟨rfl, hb7⟩
      have K7 : Hid (Below w.heap.size w w7 ∧ Room7 w7 La 0 ay am ad ah ai as') := ⟨K3.out.1.trans (hb7.mono K3.out.1.size), K3.out.2.keep hb7⟩
      clear hb7 K3 a0 a1 a2 a3 a4 a5 a6
      obtain ⟨a0, a1, a2, a3, a4, a5, a6⟩ := K7.out.2
      have hLa : La < w7.heap.size := block_lt_of_cell a0
      go_wp2_with fail
      refine (HKN.out.sec _).mono ?_
      rintro e w9 ⟨rfl, hb9⟩
      have K9 : Hid (Below w.heap.size w w9 ∧ TRoom w9 w7.heap.size 0 ft) := ⟨(K7.out.1.alloc K7.out.1.size _).trans (hb9.mono (by have := K7.out.1.size; simp; omega)), (troom_new w7 0 ft 26).keep hb9⟩
      clear hb9 K7 a0 a1 a2 a3 a4 a5 a6 hLa
      generalize w7.heap.size = Lf at *
      clear w7
      obtain ⟨f0, f1, _, _⟩ := K9.out.2
      go_wp2_with fail
      refine (HKN.out.par _ (HP.out _ K9.out.1)).mono ?_
      rintro e w10 ⟨rfl, hb10⟩
      have K10 : Hid (Below w.heap.size w w10 ∧ TRoom w10 Lf 0 ft) := ⟨K9.out.1.trans (hb10.mono K9.out.1.size), K9.out.2.keep hb10⟩
      clear hb10 K9 f0 f1
      obtain ⟨f0, f1, _, _⟩ := K10.out.2
      by_cases hmax : 253402300799 < n + 86400
      · go_wp2_with fail
        go_ret
        exact ⟨rfl, K10.out.1⟩
      have HW1 := fun w => week_known (n := n + 86400) (by omega) (by omega) w
      have HW2 := fun w => week_known (n := n) hn0 hn1 w
      obtain ⟨x, hx, hx0, hx1⟩ : ∃ x : Int, (n / 86400 + 4) % 7 = x ∧ 0 ≤ x ∧ x < 7 := ⟨_, rfl, by omega, by omega⟩
      have hx2 : ((n + 86400) / 86400 + 4) % 7 = (x + 1) % 7 := by omega
      rw [hx] at HW2
      rw [hx2] at HW1
      have HW3 : Hid (∀ w, Calls Tryd.prog 49 #[.int .i64 (n + 86400)] w fun e w' => e = .returned (.agg #[.int .i64 0, .int .i64 ((x + 1) % 7)]) ∧ Below w.heap.size w w') := HW1
      have HW4 : Hid (∀ w, Calls Tryd.prog 49 #[.int .i64 n] w fun e w' => e = .returned (.agg #[.int .i64 0, .int .i64 x]) ∧ Below w.heap.size w w') := HW2
      clear HW1 HW2 hx hx2
      have hfv := ifield_val
      go_wp2_with fail
      refine (HW3.out _).mono ?_
      rintro e w11 ⟨rfl, hb11⟩
      have K11 : Hid (Below w.heap.size w w11) := K10.out.1.trans (hb11.mono K10.out.1.size)
      clear hb11 K10 f0 f1
      go_wp2_with fail
      refine (HW4.out _).mono ?_
      rintro e w12 ⟨rfl, hb12⟩
      have K12 : Hid (Below w.heap.size w w12) := K11.out.trans (hb12.mono K11.out.size)
      clear hb12 K11
      go_wp2_with fail
      go_ret
      exact ⟨rfl, K12.out⟩
end dates
end Go.Proofs.YtibomkcbopkpkaaDoor
