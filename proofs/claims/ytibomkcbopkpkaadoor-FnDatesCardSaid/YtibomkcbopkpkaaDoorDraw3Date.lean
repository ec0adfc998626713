/-
  The draws of dates: some seconds, some date; nothing old turned.
-/
import Derived.Test.YtibomkcbopkpkaaDoorDrawApart
import Derived.Test.YtibomkcbopkpkaaDoorDateAtS
import Derived.Test.YtibomkcbopkpkaaDoorDateRoom
namespace Go.Proofs.YtibomkcbopkpkaaDoor
open Go.ChangeShapes Go.WideShapes Go.ChangeAt Go.RowKit
set_option maxHeartbeats 2000000 in
theorem drawSecs_any (w : World) (B : Nat) (a : Option Addr) (len cap k : Nat) (hs : Src w B a len cap k) (hk : k ≤ 1000) (hl2 : len ≤ 1048576) :
    Calls Tryd.prog 87 #[.pointer (some ⟨B, 0, none⟩)] w fun e w' => (∃ v : Int, 0 ≤ v ∧ v ≤ 253402300799 ∧ e = .returned (.int .i64 v)) ∧ Src w' B a len cap (k + 4) ∧ Below B w w' ∧ Apart B w w' := by
  have HS : Hid (Src w B a len cap k) := hs
  clear hs
  go_enter Tryd.func87, Tryd.ntmps87
  go_wp2_with fail
  refine (l1Next_a _ B a len cap k 60000 HS.out (by omega) (by omega) (by omega) hl2).mono ?_
  rintro e w1 ⟨⟨x, hx0, hx1, rfl⟩, hs1, hb1, ha1⟩
  have HS1 : Hid (Src w1 B a len cap (k + 1)) := hs1
  clear hs1
  go_wp2_with fail
  refine (l1Next_a _ B a len cap (k + 1) 60000 HS1.out (by omega) (by omega) (by omega) hl2).mono ?_
  rintro e w2 ⟨⟨y, hy0, hy1, rfl⟩, hs2, hb2, ha2⟩
  have HS2 : Hid (Src w2 B a len cap (k + 2)) := hs2
  clear hs2
  go_wp2_with fail
  refine (l1Next_a _ B a len cap (k + 2) 900 HS2.out (by omega) (by omega) (by omega) hl2).mono ?_
  rintro e w3 ⟨⟨z, hz0, hz1, rfl⟩, hs3, hb3, ha3⟩
  have HS3 : Hid (Src w3 B a len cap (k + 3)) := hs3
  clear hs3
  go_wp2_with fail
  refine (l1Pick_a _ B a len cap (k + 3) HS3.out [0, 86399, 86400, 784111777, 951782400, 951868799, 951868800, 1700000000 + x, y * 86400, 253402300799, 4107542400, 5097600 + z * 31536000] 12 rfl (by omega) (by omega) (by omega) hl2).mono ?_
  rintro e w4 ⟨⟨v, hv, rfl⟩, hs4, hb4, ha4⟩
  have HS4 : Hid (Src w4 B a len cap (k + 4)) := hs4
  have HV : Hid (0 ≤ v ∧ v ≤ 253402300799) := by
    show _ ∧ _
    simp only [List.mem_cons, List.not_mem_nil, or_false] at hv
    omega
  clear hs4 hv
  go_wp2_with fail
  go_ret
  exact ⟨⟨v, HV.out.1, HV.out.2, rfl⟩, HS4.out, hb1.trans (hb2.trans (hb3.trans hb4)), ha1.trans (ha2.trans (ha3.trans ha4))⟩
set_option maxHeartbeats 400000 in
theorem l1Min_le (x y : Int) (w : World) (h : x ≤ y) : Calls Tryd.prog 116 #[.int .i64 x, .int .i64 y] w fun e w' => e = .returned (.int .i64 x) ∧ w' = w := by
  by_cases c : x < y
  · go_enter Tryd.func116, Tryd.ntmps116
    go_wp2
    go_ret
    exact ⟨rfl, rfl⟩
  · obtain rfl : x = y := by omega
    go_enter Tryd.func116, Tryd.ntmps116
    go_wp2
    go_ret
    exact ⟨rfl, rfl⟩
theorem DateAtB.apart {B : Nat} {w w' : World} {b : Nat} {y m d h i s : Int} (k : DateAtB w b y m d h i s) (ha : Apart B w w') (hn : b ≠ B) : DateAtB w' b y m d h i s := by
  obtain ⟨c0, c1, c2, c3, c4, c5, fr⟩ := k
  have hl := block_lt_of_cell c0
  exact ⟨by rw [ha.cell _ _ hl hn, c0], by rw [ha.cell _ _ hl hn, c1], by rw [ha.cell _ _ hl hn, c2], by rw [ha.cell _ _ hl hn, c3], by rw [ha.cell _ _ hl hn, c4], by rw [ha.cell _ _ hl hn, c5], fun o => by rw [ha.frozen _ _ hl hn, fr]⟩
def SomeDate (e : Ending) : Prop := ∃ y m d h i s : Int, e = .returned (.agg #[.int .i64 y, .int .i64 m, .int .i64 d, .int .i64 h, .int .i64 i, .int .i64 s])
set_option maxHeartbeats 4000000 in
theorem drawDate_any (w : World) (B : Nat) (a : Option Addr) (len cap k : Nat) (hs : Src w B a len cap k) (hk : k ≤ 900) (hl2 : len ≤ 1048576) :
    Calls Tryd.prog 85 #[.pointer (some ⟨B, 0, none⟩)] w fun e w' => SomeDate e ∧ (∃ k', k' ≤ k + 6 ∧ Src w' B a len cap k') ∧ Below B w w' := by
  have HS : Hid (Src w B a len cap k) := hs
  have hlt := hs.lt
  clear hs
  go_enter Tryd.func85, Tryd.ntmps85
  go_wp2_with fail
  refine (drawSecs_any _ B a len cap k (HS.out.alloc _) (by omega) hl2).mono ?_
  rintro e w1 ⟨⟨v, hv0, hv1, rfl⟩, hs1, hb1, ha1⟩
  have HS1 : Hid (Src w1 B a len cap (k + 4)) := hs1
  have HB1 : Hid (Below B w w1) := ((Below.refl _ _).alloc (by omega) _).trans hb1
  have HR1 : Hid (DateAtB w1 w.heap.size 0 0 0 0 0 0) := (dateAtB_new w 0 0 0 0 0 0 48).apart ha1 (by omega)
  clear hs1 hb1 HS ha1
  go_wp2_with fail
  refine (l1Min_le v 253402300799 _ hv1).mono ?_
  rintro e w2 ⟨rfl, rfl⟩
  go_wp2_with fail
  refine (specAt_any v _ hv0 hv1).mono ?_
  rintro e w3 ⟨rfl, hb3⟩
  have HS3 : Hid (Src w3 B a len cap (k + 4)) := HS1.out.below (hb3.mono HS1.out.lt)
  have HB3 : Hid (Below B w w3) := HB1.out.trans (hb3.mono (Nat.le_of_lt HS1.out.lt))
  have HR3 : Hid (DateAtB w3 w.heap.size 0 0 0 0 0 0) := HR1.out.keep hb3
  clear hb3 HS1 HB1 HR1
  have HD3 : Hid _ := dateAtB_new w3 (dY v) (dM v) (dD v) (dH v) (dI v) (dS v) 48
  have hlt3 := HS3.out.lt
  have hlt4 := block_lt_of_cell HR3.out.c0
  generalize dY v = y at *
  generalize dM v = m at *
  generalize dD v = d at *
  generalize dH v = h at *
  generalize dI v = i at *
  generalize dS v = s at *
  go_wp2_with fail
  refine (l1Next_a _ B a len cap (k + 4) 9 (HS3.out.alloc _) (by omega) (by omega) (by omega) hl2).mono ?_
  rintro e w5 ⟨⟨x, hx0, hx1, rfl⟩, hs5, hb5, ha5⟩
  have HS5 : Hid (Src w5 B a len cap (k + 5)) := hs5
  have HB5 : Hid (Below B w w5) := HB3.out.trans (((Below.refl _ _).alloc (by omega) _).trans hb5)
  have HD5 : Hid (DateAtB w5 w3.heap.size y m d h i s) := HD3.out.apart ha5 (by omega)
  have HR5 : Hid (DateAtB w5 w.heap.size 0 0 0 0 0 0) := (HR3.out.keep ((Below.refl _ _).alloc (Nat.le_refl _) _)).apart ha5 (by omega)
  have hBd : w.heap.size < w3.heap.size := by simpa using hlt4
  clear hs5 hb5 ha5 HD3 HR3 HB3 HS3 hlt4
  generalize w3.heap.size = Bd at *
  have hxs : x = 0 ∨ x = 1 ∨ x = 2 ∨ x = 3 ∨ x = 4 ∨ 5 ≤ x := by omega
  rcases hxs with rfl | rfl | rfl | rfl | rfl | hx5
  · go_wp2_with fail
    refine (l1Pick_a _ B a len cap (k + 5) HS5.out [2, 13, 0] 3 rfl (by omega) (by omega) (by omega) hl2).mono ?_
    rintro e w6 ⟨⟨v, _, rfl⟩, hs6, hb6, ha6⟩
    have HS6 : Hid (Src w6 B a len cap (k + 6)) := hs6
    have HB6 : Hid (Below B w w6) := HB5.out.trans hb6
    have HD6 : Hid (DateAtB w6 Bd y m d h i s) := HD5.out.apart ha6 (by omega)
    have HR6 : Hid (DateAtB w6 w.heap.size 0 0 0 0 0 0) := HR5.out.apart ha6 (by omega)
    clear hs6 hb6 ha6 HD5 HR5 HS5 HB5
    obtain ⟨c0, c1, c2, c3, c4, c5, fr⟩ := HD6.out
    obtain ⟨r0, r1, r2, r3, r4, r5, rf⟩ := HR6.out
    have fr0 := fr 1
    have rf0 := rf 0
    have rf1 := rf 1
    have rf2 := rf 2
    have rf3 := rf 3
    have rf4 := rf 4
    have rf5 := rf 5
    clear fr rf
    go_wp2_with fail
    refine bodyPost_ret (v := .agg #[.int .i64 y, .int .i64 v, .int .i64 d, .int .i64 h, .int .i64 i, .int .i64 s]) ?_ rfl ⟨⟨_, _, _, _, _, _, rfl⟩, ⟨k + 6, by omega, HS6.out.below ((((((((Below.refl (B + 1) _).setCell (by simp; omega) _).setCell (by simp; omega) _).setCell (by simp; omega) _).setCell (by simp; omega) _).setCell (by simp; omega) _).setCell (by simp; omega) _).setCell (by simp; omega) _)⟩, (((((((HB6.out).setCell (by simp; omega) _).setCell (by simp; omega) _).setCell (by simp; omega) _).setCell (by simp; omega) _).setCell (by simp; omega) _).setCell (by simp; omega) _).setCell (by simp; omega) _⟩
    simp [results, Tryd.results85, go_sem, r0, r1, r2, r3, r4, r5]
  · go_wp2_with fail
    refine (l1Pick_a _ B a len cap (k + 5) HS5.out [29, 30, 31, 32, 0] 5 rfl (by omega) (by omega) (by omega) hl2).mono ?_
    rintro e w6 ⟨⟨v, _, rfl⟩, hs6, hb6, ha6⟩
    have HS6 : Hid (Src w6 B a len cap (k + 6)) := hs6
    have HB6 : Hid (Below B w w6) := HB5.out.trans hb6
    have HD6 : Hid (DateAtB w6 Bd y m d h i s) := HD5.out.apart ha6 (by omega)
    have HR6 : Hid (DateAtB w6 w.heap.size 0 0 0 0 0 0) := HR5.out.apart ha6 (by omega)
    clear hs6 hb6 ha6 HD5 HR5 HS5 HB5
    obtain ⟨c0, c1, c2, c3, c4, c5, fr⟩ := HD6.out
    obtain ⟨r0, r1, r2, r3, r4, r5, rf⟩ := HR6.out
    have fr0 := fr 2
    have rf0 := rf 0
    have rf1 := rf 1
    have rf2 := rf 2
    have rf3 := rf 3
    have rf4 := rf 4
    have rf5 := rf 5
    clear fr rf
    go_wp2_with fail
    refine bodyPost_ret (v := .agg #[.int .i64 y, .int .i64 m, .int .i64 v, .int .i64 h, .int .i64 i, .int .i64 s]) ?_ rfl ⟨⟨_, _, _, _, _, _, rfl⟩, ⟨k + 6, by omega, HS6.out.below ((((((((Below.refl (B + 1) _).setCell (by simp; omega) _).setCell (by simp; omega) _).setCell (by simp; omega) _).setCell (by simp; omega) _).setCell (by simp; omega) _).setCell (by simp; omega) _).setCell (by simp; omega) _)⟩, (((((((HB6.out).setCell (by simp; omega) _).setCell (by simp; omega) _).setCell (by simp; omega) _).setCell (by simp; omega) _).setCell (by simp; omega) _).setCell (by simp; omega) _).setCell (by simp; omega) _⟩
    simp [results, Tryd.results85, go_sem, r0, r1, r2, r3, r4, r5]
  · go_wp2_with fail
    refine (l1Pick_a _ B a len cap (k + 5) HS5.out [24, -1] 2 rfl (by omega) (by omega) (by omega) hl2).mono ?_
    rintro e w6 ⟨⟨v, _, rfl⟩, hs6, hb6, ha6⟩
    have HS6 : Hid (Src w6 B a len cap (k + 6)) := hs6
    have HB6 : Hid (Below B w w6) := HB5.out.trans hb6
    have HD6 : Hid (DateAtB w6 Bd y m d h i s) := HD5.out.apart ha6 (by omega)
    have HR6 : Hid (DateAtB w6 w.heap.size 0 0 0 0 0 0) := HR5.out.apart ha6 (by omega)
    clear hs6 hb6 ha6 HD5 HR5 HS5 HB5
    obtain ⟨c0, c1, c2, c3, c4, c5, fr⟩ := HD6.out
    obtain ⟨r0, r1, r2, r3, r4, r5, rf⟩ := HR6.out
    have fr0 := fr 3
    have rf0 := rf 0
    have rf1 := rf 1
    have rf2 := rf 2
    have rf3 := rf 3
    have rf4 := rf 4
    have rf5 := rf 5
    clear fr rf
    go_wp2_with fail
    refine bodyPost_ret (v := .agg #[.int .i64 y, .int .i64 m, .int .i64 d, .int .i64 v, .int .i64 i, .int .i64 s]) ?_ rfl ⟨⟨_, _, _, _, _, _, rfl⟩, ⟨k + 6, by omega, HS6.out.below ((((((((Below.refl (B + 1) _).setCell (by simp; omega) _).setCell (by simp; omega) _).setCell (by simp; omega) _).setCell (by simp; omega) _).setCell (by simp; omega) _).setCell (by simp; omega) _).setCell (by simp; omega) _)⟩, (((((((HB6.out).setCell (by simp; omega) _).setCell (by simp; omega) _).setCell (by simp; omega) _).setCell (by simp; omega) _).setCell (by simp; omega) _).setCell (by simp; omega) _).setCell (by simp; omega) _⟩
    simp [results, Tryd.results85, go_sem, r0, r1, r2, r3, r4, r5]
  · go_wp2_with fail
    refine (l1Pick_a _ B a len cap (k + 5) HS5.out [60, -1] 2 rfl (by omega) (by omega) (by omega) hl2).mono ?_
    rintro e w6 ⟨⟨v, _, rfl⟩, hs6, hb6, ha6⟩
    have HS6 : Hid (Src w6 B a len cap (k + 6)) := hs6
    have HB6 : Hid (Below B w w6) := HB5.out.trans hb6
    have HD6 : Hid (DateAtB w6 Bd y m d h i s) := HD5.out.apart ha6 (by omega)
    have HR6 : Hid (DateAtB w6 w.heap.size 0 0 0 0 0 0) := HR5.out.apart ha6 (by omega)
    clear hs6 hb6 ha6 HD5 HR5 HS5 HB5
    obtain ⟨c0, c1, c2, c3, c4, c5, fr⟩ := HD6.out
    obtain ⟨r0, r1, r2, r3, r4, r5, rf⟩ := HR6.out
    have fr0 := fr 5
    have rf0 := rf 0
    have rf1 := rf 1
    have rf2 := rf 2
    have rf3 := rf 3
    have rf4 := rf 4
    have rf5 := rf 5
    clear fr rf
    go_wp2_with fail
    refine bodyPost_ret (v := .agg #[.int .i64 y, .int .i64 m, .int .i64 d, .int .i64 h, .int .i64 i, .int .i64 v]) ?_ rfl ⟨⟨_, _, _, _, _, _, rfl⟩, ⟨k + 6, by omega, HS6.out.below ((((((((Below.refl (B + 1) _).setCell (by simp; omega) _).setCell (by simp; omega) _).setCell (by simp; omega) _).setCell (by simp; omega) _).setCell (by simp; omega) _).setCell (by simp; omega) _).setCell (by simp; omega) _)⟩, (((((((HB6.out).setCell (by simp; omega) _).setCell (by simp; omega) _).setCell (by simp; omega) _).setCell (by simp; omega) _).setCell (by simp; omega) _).setCell (by simp; omega) _).setCell (by simp; omega) _⟩
    simp [results, Tryd.results85, go_sem, r0, r1, r2, r3, r4, r5]
  · go_wp2_with fail
    refine (l1Pick_a _ B a len cap (k + 5) HS5.out [1969, 10000, 2000, 1900, 2100] 5 rfl (by omega) (by omega) (by omega) hl2).mono ?_
    rintro e w6 ⟨⟨v, _, rfl⟩, hs6, hb6, ha6⟩
    have HS6 : Hid (Src w6 B a len cap (k + 6)) := hs6
    have HB6 : Hid (Below B w w6) := HB5.out.trans hb6
    have HD6 : Hid (DateAtB w6 Bd y m d h i s) := HD5.out.apart ha6 (by omega)
    have HR6 : Hid (DateAtB w6 w.heap.size 0 0 0 0 0 0) := HR5.out.apart ha6 (by omega)
    clear hs6 hb6 ha6 HD5 HR5 HS5 HB5
    obtain ⟨c0, c1, c2, c3, c4, c5, fr⟩ := HD6.out
    obtain ⟨r0, r1, r2, r3, r4, r5, rf⟩ := HR6.out
    have fr0 := fr 0
    have rf0 := rf 0
    have rf1 := rf 1
    have rf2 := rf 2
    have rf3 := rf 3
    have rf4 := rf 4
    have rf5 := rf 5
    clear fr rf
    go_wp2_with fail
    refine bodyPost_ret (v := .agg #[.int .i64 v, .int .i64 m, .int .i64 d, .int .i64 h, .int .i64 i, .int .i64 s]) ?_ rfl ⟨⟨_, _, _, _, _, _, rfl⟩, ⟨k + 6, by omega, HS6.out.below ((((((((Below.refl (B + 1) _).setCell (by simp; omega) _).setCell (by simp; omega) _).setCell (by simp; omega) _).setCell (by simp; omega) _).setCell (by simp; omega) _).setCell (by simp; omega) _).setCell (by simp; omega) _)⟩, (((((((HB6.out).setCell (by simp; omega) _).setCell (by simp; omega) _).setCell (by simp; omega) _).setCell (by simp; omega) _).setCell (by simp; omega) _).setCell (by simp; omega) _).setCell (by simp; omega) _⟩
    simp [results, Tryd.results85, go_sem, r0, r1, r2, r3, r4, r5]
  · have n0 : ¬ x = 0 := by omega
    have n1 : ¬ x = 1 := by omega
    have n2 : ¬ x = 2 := by omega
    have n3 : ¬ x = 3 := by omega
    have n4 : ¬ x = 4 := by omega
    obtain ⟨c0, c1, c2, c3, c4, c5, fr⟩ := HD5.out
    obtain ⟨r0, r1, r2, r3, r4, r5, rf⟩ := HR5.out
    have rf0 := rf 0
    have rf1 := rf 1
    have rf2 := rf 2
    have rf3 := rf 3
    have rf4 := rf 4
    have rf5 := rf 5
    clear fr rf
    go_wp2_with fail
    refine bodyPost_ret (v := .agg #[.int .i64 y, .int .i64 m, .int .i64 d, .int .i64 h, .int .i64 i, .int .i64 s]) ?_ rfl ⟨⟨_, _, _, _, _, _, rfl⟩, ⟨k + 5, by omega, HS5.out.below (((((((Below.refl (B + 1) _).setCell (by simp; omega) _).setCell (by simp; omega) _).setCell (by simp; omega) _).setCell (by simp; omega) _).setCell (by simp; omega) _).setCell (by simp; omega) _)⟩, ((((((HB5.out).setCell (by simp; omega) _).setCell (by simp; omega) _).setCell (by simp; omega) _).setCell (by simp; omega) _).setCell (by simp; omega) _).setCell (by simp; omega) _⟩
    simp [results, Tryd.results85, go_sem, r0, r1, r2, r3, r4, r5]
end Go.Proofs.YtibomkcbopkpkaaDoor
