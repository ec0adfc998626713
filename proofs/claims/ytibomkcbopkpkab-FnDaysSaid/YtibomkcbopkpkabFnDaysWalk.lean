/-
  The law of days, out of contracts.
-/
import Derived.Test.YtibomkcbopkpkabDraw3Date
import Derived.Test.YtibomkcbopkpkabDateOf
import Derived.Lib.QuietBelow
import Derived.Deep.RegionWith
import Derived.BigQuiet
namespace Go.Proofs.Ytibomkcbopkpkab
open Go.ChangeShapes Go.WideShapes Go.ChangeAt Go.RowKit Go.Sort
namespace days
theorem keep {W W' : World} (hb : Below W.heap.size W W') {p : Addr} {v : Value} (h : W.cell? p = some v) : W'.cell? p = some v := by
  rw [hb.cell (block_lt_of_cell h)]; exact h
theorem keepF {W W' : World} (hb : Below W.heap.size W W') {p : Addr} {v : Value} (h : W.cell? p = some v) (f : W.frozen? p = false) : W'.frozen? p = false := by
  rw [hb.frozen (block_lt_of_cell h)]; exact f
theorem keepA {W : World} {p : Addr} {v : Value} (o : Obj) (h : W.cell? p = some v) : (W.alloc o).cell? p = some v := keep ((Below.refl _ _).alloc (Nat.le_refl _) _) h
set_option maxHeartbeats 1000000 in
theorem drawDaysOf_any (w : World) (a : Option Addr) (len cap : Nat) (hc : CodeRow w w.heap.size a len) (hl2 : len ≤ 1048576) :
    Calls Try.prog 5 #[.slice a len cap] w fun e w' => (∃ y m d : Int, e = .returned (.tuple #[.int .i64 y, .int .i64 m, .int .i64 d])) ∧ Below w.heap.size w w' := by
  have HC : Hid (CodeRow w w.heap.size a len) := hc
  clear hc
  go_enter Try.func5, Try.ntmps5
  go_wp2_with fail
  refine (l1Source_any w a len cap HC.out).mono ?_
  rintro e w0 ⟨rfl, hs0, hb0⟩
  have HS0 : Hid (Src w0 w.heap.size a len cap 0) := hs0
  have HB0 : Hid (Below w.heap.size w w0) := hb0
  clear hs0 HC hb0
  go_wp2_with fail
  refine (drawDate_any _ w.heap.size a len cap 0 HS0.out (by omega) hl2).mono ?_
  rintro e w1 ⟨⟨y, m, d, h, i, s, rfl⟩, ⟨k', _, hs1⟩, hb1⟩
  have HB1 : Hid (Below w.heap.size w w1) := HB0.out.trans hb1
  clear hs1 hb1 HB0 HS0
  go_wp2_with fail
  go_quiet (fail)
  go_wp2
  go_ret3
  exact ⟨⟨y, m, d, rfl⟩, by first | exact below_drewN (HB1.out.alloc HB1.out.size _) _ | exact HB1.out.alloc HB1.out.size _⟩
/-- What DaysOf answers at a day, on both sides. -/
structure Told (y m d c v : Int) : Prop where
  sp : ∀ w, Calls Try.prog 7 #[.int .i64 y, .int .i64 m, .int .i64 d] w fun e w' => e = .returned (.agg #[.int .i64 c, .int .i64 v]) ∧ Below w.heap.size w w'
  im : ∀ w, Calls Try.prog 6 #[.int .i64 y, .int .i64 m, .int .i64 d] w fun e w' => e = .returned (.agg #[.int .i64 c, .int .i64 v]) ∧ Below w.heap.size w w'
theorem told_yes {y m d : Int} (h : DayOk y m d) : Told y m d 0 (daysD y m d) := by
  have hk := dayB_of h
  have e1 := specDaysOf_any y m d
  have e2 := implDaysOf_any y m d
  rw [doC_yes hk, doV_yes hk] at e1 e2
  exact ⟨e1, e2⟩
theorem told_no {y m d : Int} (h : ¬ DayOk y m d) : Told y m d 3 0 := by
  have hk : dayB y m d = false := by
    cases k : dayB y m d
    · rfl
    · exact absurd (dayB_yes k) h
  have e1 := specDaysOf_any y m d
  have e2 := implDaysOf_any y m d
  rw [doC_no hk, doV_no hk] at e1 e2
  exact ⟨e1, e2⟩
structure Room (w : World) (b : Nat) (c v : Int) : Prop where
  c0 : w.cell? ⟨b, 0, none⟩ = some (.int .i64 c)
  c1 : w.cell? ⟨b, 1, none⟩ = some (.int .i64 v)
  f0 : w.frozen? ⟨b, 0, none⟩ = false
  f1 : w.frozen? ⟨b, 1, none⟩ = false
theorem Room.keep {w w' : World} {b : Nat} {c v : Int} (h : Room w b c v) (hb : Below w.heap.size w w') : Room w' b c v :=
  ⟨days.keep hb h.c0, days.keep hb h.c1, keepF hb h.c0 h.f0, keepF hb h.c1 h.f1⟩
theorem room_new (w : World) (c v : Int) (t : TypeId) : Room (w.alloc (.cells #[.int .i64 c, .int .i64 v] t)) w.heap.size c v := ⟨by simp, by simp, by simp, by simp⟩
theorem Room.set {w : World} {b : Nat} {c v c' v' : Int} (h : Room w b c v) : Room ((w.setCell ⟨b, 0, none⟩ (.int .i64 c')).setCell ⟨b, 1, none⟩ (.int .i64 v')) b c' v' := by
  obtain ⟨q0, q1⟩ := two_set (v0 := .int .i64 c') (v1 := .int .i64 v') h.c0 h.c1
  exact ⟨q0, q1, by rw [World.frozen?_setCell, World.frozen?_setCell, h.f0], by rw [World.frozen?_setCell, World.frozen?_setCell, h.f1]⟩
theorem Room.other {w : World} {b b' o : Nat} {c v : Int} {u : Value} (h : Room w b c v) (hn : b ≠ b') : Room (w.setCell ⟨b', o, none⟩ u) b c v := by
  have e : ∀ o', (w.setCell ⟨b', o, none⟩ u).cell? ⟨b, o', none⟩ = w.cell? ⟨b, o', none⟩ := fun o' => World.cell?_setCell_other _ _ _ _ (by intro h; have := congrArg Addr.block h; simp at this; omega)
  exact ⟨by rw [e, h.c0], by rw [e, h.c1], by rw [World.frozen?_setCell, h.f0], by rw [World.frozen?_setCell, h.f1]⟩
/-- From one day to the next, in all its ways. -/
theorem ways {y m d : Int} (h : DayOk y m d) :
    (∃ D, Told y m d 0 D ∧ 0 ≤ D ∧ D ≤ 2932896 ∧ (Told y m (d + 1) 0 (D + 1) ∨ (Told y m (d + 1) 3 0 ∧ (Told y (m + 1) 1 0 (D + 1) ∨ (Told y (m + 1) 1 3 0 ∧ (Told (y + 1) 1 1 0 (D + 1) ∨ (Told (y + 1) 1 1 3 0 ∧ y = 9999 ∧ m = 12 ∧ d = 31))))))) ∧ 1970 ≤ y ∧ y ≤ 9999 ∧ 1 ≤ m ∧ m ≤ 12 ∧ 1 ≤ d ∧ d ≤ 31 := by
  have hd := mlen_bd y m
  refine ⟨⟨_, told_yes h, (daysD_bd h).1, (daysD_bd h).2, ?_⟩, h.y0, h.y1, h.m0, h.m1, h.d0, by have := h.d1; omega⟩
  by_cases k : DayOk y m (d + 1)
  · refine .inl ?_
    have e : daysD y m d + 1 = daysD y m (d + 1) := by unfold daysD; omega
    rw [e]
    exact told_yes k
  refine .inr ⟨told_no k, ?_⟩
  by_cases hm : m < 12
  · obtain ⟨k2, e⟩ := next_month h k hm
    rw [← e]
    exact .inl (told_yes k2)
  have hm2 : m = 12 := by have := h.m1; omega
  obtain ⟨hd31, e⟩ := next_year h k hm2
  refine .inr ⟨told_no (fun k => by have := k.m1; omega), ?_⟩
  by_cases hy : y < 9999
  · rw [← e]
    exact .inl (told_yes ⟨by have := h.y0; omega, by omega, by omega, by omega, by omega, by have := mlen_bd (y + 1) 1; omega⟩)
  · exact .inr ⟨told_no (fun k => by have := k.y1; omega), by have := h.y1; omega, hm2, hd31⟩
set_option maxRecDepth 100000 in
set_option maxHeartbeats 8000000 in
theorem fnDays_walk (w : World) (a : Option Addr) (len cap : Nat) (hc : CodeRow w w.heap.size a len) :
    Calls Try.prog 3 #[.slice a len cap] w fun e w' => e = .returned (.bool true) ∧ Below w.heap.size w w' := by
  have HC : Hid (CodeRow w w.heap.size a len) := hc
  clear hc
  by_cases hbig : (1048576 : Int) < len
  · go_enter Try.func3, Try.ntmps3
    go_wp2
    go_ret
    exact ⟨rfl, Below.refl _ _⟩
  have hl2 : len ≤ 1048576 := by omega
  go_enter Try.func3, Try.ntmps3
  go_wp2_with (go_at_call 4; go_in)
  refine (drawDaysOf_any w a len cap HC.out hl2).mono ?_
  rintro e w1 ⟨⟨y, m, d, rfl⟩, hb1⟩
  obtain ⟨c, v, HT, HW⟩ : ∃ c v, Hid (Told y m d c v) ∧ Hid ((c = 3 ∧ v = 0) ∨ (c = 0 ∧ 0 ≤ v ∧ v ≤ 2932896 ∧ 1970 ≤ y ∧ y ≤ 9999 ∧ 1 ≤ m ∧ m ≤ 12 ∧ 1 ≤ d ∧ d ≤ 31 ∧ (Told y m (d + 1) 0 (v + 1) ∨ (Told y m (d + 1) 3 0 ∧ (Told y (m + 1) 1 0 (v + 1) ∨ (Told y (m + 1) 1 3 0 ∧ (Told (y + 1) 1 1 0 (v + 1) ∨ (Told (y + 1) 1 1 3 0 ∧ y = 9999 ∧ m = 12 ∧ d = 31)))))))) := by
    by_cases h : DayOk y m d
    · obtain ⟨⟨D, h1, h2, h3, h4⟩, h5, h6, h7, h8, h9, h10⟩ := ways h
      exact ⟨0, D, h1, .inr ⟨rfl, h2, h3, h5, h6, h7, h8, h9, h10, h4⟩⟩
    · exact ⟨3, 0, told_no h, .inl ⟨rfl, rfl⟩⟩
  go_wp2_with fail
  refine (HT.out.im _).mono ?_
  rintro e w2 ⟨rfl, hb2⟩
  obtain ⟨W, hW⟩ : ∃ W, W = w2.alloc (.cells #[.int .i64 c, .int .i64 v] 27) := ⟨_, rfl⟩
  have K2 : Hid (Below w.heap.size w W ∧ Room W w2.heap.size c v) := by
    have b := hb1.trans (hb2.mono hb1.size)
    subst hW
    exact ⟨b.alloc b.size _, room_new _ _ _ _⟩
  have HWW : Hid (W = w2.alloc (.cells #[.int .i64 c, .int .i64 v] 27)) := hW
  clear hW hb1 hb2 HC
  go_wp2_with fail
  rw [← HWW.out]
  clear HWW
  generalize w2.heap.size = Lr at *
  clear w2
  obtain ⟨kB, kR⟩ := K2.out
  have KB : Hid (Below w.heap.size w W) := kB
  have KR : Hid (Room W Lr c v) := kR
  have q0 := cell_regrown kR.c0
  have q1 := cell_regrown kR.c1
  clear K2 kB kR
  have cS : ∀ d' os, Calls Try.prog 7 #[.int .i64 y, .int .i64 m, .int .i64 d] (grow (redrawn W d') os) fun e w'' => e = .returned (.agg #[.int .i64 c, .int .i64 v]) ∧ ∃ p : Regrown, w'' = grow (redrawn W p.d) p.os := fun d' os => Calls.regrown_of (HT.out.sp _)
  refine wp_region_quiet_below (by kernel_rfl) (by kernel_rfl) ?_
  repeat (go_big_quiet_step (first | (go_at_call 7; exact cS _ _)))
  refine wpQuiet_nil ?_
  intro W2 hW2
  have hbW2 : Below W.heap.size W W2 := by
    obtain ⟨⟨d, os⟩, rfl⟩ := hW2
    exact below_regrown W d os
  have KB2 : Hid (Below w.heap.size w W2) := KB.out.trans (hbW2.mono KB.out.size)
  have KR2 : Hid (Room W2 Lr c v) := KR.out.keep hbW2
  clear hW2 hbW2 KB KR cS q0 q1 HT
  have p0 := KR2.out.c0
  have p1 := KR2.out.c1
  have hLr := block_lt_of_cell p0
  rcases HW.out with ⟨rfl, rfl⟩ | ⟨rfl, v0, v1, y0, y1, m0, m1, d0, d1, hn⟩
  · clear HW
    go_wp2_with fail
    go_ret
    exact ⟨rfl, KB2.out⟩
  clear HW
  have HN : Hid (Told y m (d + 1) 0 (v + 1) ∨ (Told y m (d + 1) 3 0 ∧ (Told y (m + 1) 1 0 (v + 1) ∨ (Told y (m + 1) 1 3 0 ∧ (Told (y + 1) 1 1 0 (v + 1) ∨ (Told (y + 1) 1 1 3 0 ∧ y = 9999 ∧ m = 12 ∧ d = 31)))))) := hn
  clear hn
  rcases HN.out with h1 | ⟨h1, h2⟩
  · have HA : Hid (Told y m (d + 1) 0 (v + 1)) := h1
    clear HN h1
    go_wp2_with fail
    refine (HA.out.im _).mono ?_
    rintro e w3 ⟨rfl, hb3⟩
    have KB3 : Hid (Below w.heap.size w w3) := KB2.out.trans (hb3.mono KB2.out.size)
    have KR3 : Hid (Room w3 Lr 0 v) := KR2.out.keep hb3
    have l3 : Lr < w3.heap.size := Nat.lt_of_lt_of_le hLr hb3.size
    clear hb3 KB2 KR2 p0 p1 hLr
    have p0 := KR3.out.c0
    have p1 := KR3.out.c1
    go_wp2_with fail
    go_ret
    exact ⟨rfl, KB3.out.alloc KB3.out.size _⟩
  have HA : Hid (Told y m (d + 1) 3 0) := h1
  clear HN h1
  go_wp2_with fail
  refine (HA.out.im _).mono ?_
  rintro e w3 ⟨rfl, hb3⟩
  have KB3 : Hid (Below w.heap.size w w3) := KB2.out.trans (hb3.mono KB2.out.size)
  have KR3 : Hid (Room w3 Lr 0 v) := KR2.out.keep hb3
  have l3 : Lr < w3.heap.size := Nat.lt_of_lt_of_le hLr hb3.size
  clear hb3 KB2 KR2 p0 p1 hLr
  have p0 := KR3.out.c0
  have p1 := KR3.out.c1
  rcases h2 with h2 | ⟨h2, h3⟩
  · have HB : Hid (Told y (m + 1) 1 0 (v + 1)) := h2
    clear h2
    go_wp2_with fail
    refine (HB.out.im _).mono ?_
    rintro e w4 ⟨rfl, hb4⟩
    have KB4 : Hid (Below w.heap.size w w4) := (KB3.out.alloc KB3.out.size _).trans (hb4.mono (by have := KB3.out.size; simp; omega))
    have KR4 : Hid (Room w4 Lr 0 v) := (KR3.out.keep ((Below.refl _ _).alloc (Nat.le_refl _) _)).keep hb4
    have KN4 : Hid (Room w4 w3.heap.size 3 0) := (room_new w3 3 0 27).keep hb4
    have hs3 := KB3.out.size
    clear hb4 KB3 KR3 p0 p1
    generalize w3.heap.size = Ln at *
    clear w3
    have p0 := KR4.out.c0
    have p1 := KR4.out.c1
    obtain ⟨n0, n1, f0, f1⟩ := KN4.out
    have l4 : ¬ Lr = Ln := by omega
    have l5 : ¬ Ln = Lr := by omega
    obtain ⟨z0, z1⟩ := two_set (v0 := .int .i64 0) (v1 := .int .i64 (v + 1)) n0 n1
    go_wp2_with fail
    go_ret
    exact ⟨rfl, (KB4.out.setCell hs3 _).setCell hs3 _⟩
  have HB : Hid (Told y (m + 1) 1 3 0) := h2
  clear h2
  go_wp2_with fail
  refine (HB.out.im _).mono ?_
  rintro e w4 ⟨rfl, hb4⟩
  have KB4 : Hid (Below w.heap.size w w4) := (KB3.out.alloc KB3.out.size _).trans (hb4.mono (by have := KB3.out.size; simp; omega))
  have KR4 : Hid (Room w4 Lr 0 v) := (KR3.out.keep ((Below.refl _ _).alloc (Nat.le_refl _) _)).keep hb4
  have KN4 : Hid (Room w4 w3.heap.size 3 0) := (room_new w3 3 0 27).keep hb4
  have hs3 := KB3.out.size
  clear hb4 KB3 KR3 p0 p1
  generalize w3.heap.size = Ln at *
  clear w3
  have p0 := KR4.out.c0
  have p1 := KR4.out.c1
  obtain ⟨n0, n1, f0, f1⟩ := KN4.out
  have l4 : ¬ Lr = Ln := by omega
  have l5 : ¬ Ln = Lr := by omega
  obtain ⟨z0, z1⟩ := two_set (v0 := .int .i64 3) (v1 := .int .i64 0) n0 n1
  rcases h3 with h3 | ⟨h3, rfl, rfl, rfl⟩
  · have HE : Hid (Told (y + 1) 1 1 0 (v + 1)) := h3
    clear h3
    have KB5 : Hid (Below w.heap.size w ((w4.setCell ⟨Ln, 0, none⟩ (.int .i64 3)).setCell ⟨Ln, 1, none⟩ (.int .i64 0))) := (KB4.out.setCell hs3 _).setCell hs3 _
    have KR5 : Hid (Room ((w4.setCell ⟨Ln, 0, none⟩ (.int .i64 3)).setCell ⟨Ln, 1, none⟩ (.int .i64 0)) Lr 0 v) := (KR4.out.other l4).other l4
    have KN5 : Hid (Room ((w4.setCell ⟨Ln, 0, none⟩ (.int .i64 3)).setCell ⟨Ln, 1, none⟩ (.int .i64 0)) Ln 3 0) := KN4.out.set
    go_wp2_with fail
    refine (HE.out.im _).mono ?_
    rintro e w5 ⟨rfl, hb5⟩
    have KB6 : Hid (Below w.heap.size w w5) := KB5.out.trans (hb5.mono KB5.out.size)
    have KR6 : Hid (Room w5 Lr 0 v) := KR5.out.keep hb5
    have KN6 : Hid (Room w5 Ln 3 0) := KN5.out.keep hb5
    clear hb5 KB5 KR5 KN5 KB4 KR4 KN4 p0 p1 n0 n1 f0 f1 z0 z1
    clear w4
    have p0 := KR6.out.c0
    have p1 := KR6.out.c1
    obtain ⟨n0, n1, f0, f1⟩ := KN6.out
    obtain ⟨z0, z1⟩ := two_set (v0 := .int .i64 0) (v1 := .int .i64 (v + 1)) n0 n1
    go_wp2_with fail
    go_ret
    exact ⟨rfl, (KB6.out.setCell hs3 _).setCell hs3 _⟩
  · have HE : Hid (Told (9999 + 1) 1 1 3 0) := h3
    clear h3
    have KB5 : Hid (Below w.heap.size w ((w4.setCell ⟨Ln, 0, none⟩ (.int .i64 3)).setCell ⟨Ln, 1, none⟩ (.int .i64 0))) := (KB4.out.setCell hs3 _).setCell hs3 _
    have KR5 : Hid (Room ((w4.setCell ⟨Ln, 0, none⟩ (.int .i64 3)).setCell ⟨Ln, 1, none⟩ (.int .i64 0)) Lr 0 v) := (KR4.out.other l4).other l4
    have KN5 : Hid (Room ((w4.setCell ⟨Ln, 0, none⟩ (.int .i64 3)).setCell ⟨Ln, 1, none⟩ (.int .i64 0)) Ln 3 0) := KN4.out.set
    go_wp2_with fail
    refine (HE.out.im _).mono ?_
    rintro e w5 ⟨rfl, hb5⟩
    have KB6 : Hid (Below w.heap.size w w5) := KB5.out.trans (hb5.mono KB5.out.size)
    have KR6 : Hid (Room w5 Lr 0 v) := KR5.out.keep hb5
    have KN6 : Hid (Room w5 Ln 3 0) := KN5.out.keep hb5
    clear hb5 KB5 KR5 KN5 KB4 KR4 KN4 p0 p1 n0 n1 f0 f1 z0 z1
    clear w4
    have p0 := KR6.out.c0
    have p1 := KR6.out.c1
    obtain ⟨n0, n1, f0, f1⟩ := KN6.out
    obtain ⟨z0, z1⟩ := two_set (v0 := .int .i64 3) (v1 := .int .i64 0) n0 n1
    go_wp2_with fail
    go_ret
    exact ⟨rfl, (KB6.out.setCell hs3 _).setCell hs3 _⟩
end days
end Go.Proofs.Ytibomkcbopkpkab
