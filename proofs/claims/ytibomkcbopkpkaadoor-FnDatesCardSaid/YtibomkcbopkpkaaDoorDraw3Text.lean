/-
  The draws of chapter 3's laws: a date, a number of seconds, a text.
-/
import Derived.Test.YtibomkcbopkpkaaDoorDraw3Date
import Derived.Test.YtibomkcbopkpkaaDoorLawFormatDate
import Derived.Test.YtibomkcbopkpkaaDoorDateBack
namespace Go.Proofs.YtibomkcbopkpkaaDoor
open Go.ChangeShapes Go.WideShapes Go.ChangeAt Go.RowKit
set_option maxHeartbeats 1000000 in
theorem drawSecondsOf_any (w : World) (a : Option Addr) (len cap : Nat) (hc : CodeRow w w.heap.size a len) (hl2 : len ≤ 1048576) :
    Calls Tryd.prog 38 #[.slice a len cap] w fun e w' => SomeDate e ∧ Below w.heap.size w w' := by
  have HC : Hid (CodeRow (w.alloc (.cells #[.int .i64 0, .int .i64 0, .int .i64 0, .int .i64 0, .int .i64 0, .int .i64 0] 48)) (w.heap.size + 1) a len) := (hc.below ((Below.refl _ _).alloc (Nat.le_refl _) _)).mono (Nat.le_succ _)
  clear hc
  go_enter Tryd.func38, Tryd.ntmps38
  go_wp2_with fail
  refine (l1Source_any _ a len cap (by rw [World.size_alloc]; exact HC.out)).mono ?_
  rintro e w1 ⟨rfl, hs1, hb1⟩
  rw [World.size_alloc] at *
  have HS1 : Hid (Src w1 (w.heap.size + 1) a len cap 0) := hs1
  have HD1 : Hid (DateAtB w1 w.heap.size 0 0 0 0 0 0) := (dateAtB_new w 0 0 0 0 0 0 48).keep (by rw [World.size_alloc]; exact hb1)
  have HB1 : Hid (Below w.heap.size w w1) := ((Below.refl _ _).alloc (Nat.le_refl _) _).trans (hb1.mono (Nat.le_succ _))
  clear hs1 hb1 HC
  go_wp2_with fail
  refine (drawDate_any _ (w.heap.size + 1) a len cap 0 HS1.out (by omega) hl2).mono ?_
  rintro e w2 ⟨⟨y, m, d, h, i, s, rfl⟩, _, hb2⟩
  have HB2 : Hid (Below w.heap.size w w2) := HB1.out.trans (hb2.mono (Nat.le_succ _))
  have HD2 : Hid (DateAtB w2 w.heap.size 0 0 0 0 0 0) := by
    obtain ⟨c0, c1, c2, c3, c4, c5, fr⟩ := HD1.out
    have hl : w.heap.size < w.heap.size + 1 := Nat.lt_succ_self _
    exact ⟨by rw [hb2.cell (p := ⟨w.heap.size, 0, none⟩) hl, c0], by rw [hb2.cell (p := ⟨w.heap.size, 1, none⟩) hl, c1], by rw [hb2.cell (p := ⟨w.heap.size, 2, none⟩) hl, c2], by rw [hb2.cell (p := ⟨w.heap.size, 3, none⟩) hl, c3], by rw [hb2.cell (p := ⟨w.heap.size, 4, none⟩) hl, c4], by rw [hb2.cell (p := ⟨w.heap.size, 5, none⟩) hl, c5], fun o => by rw [hb2.frozen (p := ⟨w.heap.size, o, none⟩) hl, fr]⟩
  clear hb2 HD1 HB1 HS1
  obtain ⟨r0, r1, r2, r3, r4, r5, rf⟩ := HD2.out
  have rf0 := rf 0
  have rf1 := rf 1
  have rf2 := rf 2
  have rf3 := rf 3
  have rf4 := rf 4
  have rf5 := rf 5
  clear rf
  go_wp2_with fail
  refine bodyPost_ret (v := .agg #[.int .i64 y, .int .i64 m, .int .i64 d, .int .i64 h, .int .i64 i, .int .i64 s]) ?_ rfl ⟨⟨_, _, _, _, _, _, rfl⟩, (((((HB2.out.setCell (Nat.le_refl _) _).setCell (Nat.le_refl _) _).setCell (Nat.le_refl _) _).setCell (Nat.le_refl _) _).setCell (Nat.le_refl _) _).setCell (Nat.le_refl _) _⟩
  simp [results, Tryd.results38, go_sem, r0, r1, r2, r3, r4, r5]
set_option maxHeartbeats 1000000 in
theorem drawDateAt_any (w : World) (a : Option Addr) (len cap : Nat) (hc : CodeRow w w.heap.size a len) (hl2 : len ≤ 1048576) :
    Calls Tryd.prog 40 #[.slice a len cap] w fun e w' => (∃ n : Int, e = .returned (.int .i64 n)) ∧ Below w.heap.size w w' := by
  have HC : Hid (CodeRow w w.heap.size a len) := hc
  clear hc
  go_enter Tryd.func40, Tryd.ntmps40
  go_wp2_with fail
  refine (l1Source_any w a len cap HC.out).mono ?_
  rintro e w0 ⟨rfl, hs0, hb0⟩
  have HS0 : Hid (Src w0 w.heap.size a len cap 0) := hs0
  have HB0 : Hid (Below w.heap.size w w0) := hb0
  clear hs0 hb0 HC
  go_wp2_with fail
  refine (drawSecs_any _ w.heap.size a len cap 0 HS0.out (by omega) hl2).mono ?_
  rintro e w1 ⟨⟨x1, _, _, rfl⟩, hs1, hb1, _⟩
  have HS1 : Hid (Src w1 w.heap.size a len cap 4) := hs1
  have HB1 : Hid (Below w.heap.size w w1) := HB0.out.trans hb1
  clear hs1 hb1 HS0 HB0
  go_wp2_with fail
  refine (drawSecs_any _ w.heap.size a len cap 4 HS1.out (by omega) hl2).mono ?_
  rintro e w2 ⟨⟨x2, _, _, rfl⟩, hs2, hb2, _⟩
  have HS2 : Hid (Src w2 w.heap.size a len cap 8) := hs2
  have HB2 : Hid (Below w.heap.size w w2) := HB1.out.trans hb2
  clear hs2 hb2 HS1 HB1
  go_wp2_with fail
  refine (drawSecs_any _ w.heap.size a len cap 8 HS2.out (by omega) hl2).mono ?_
  rintro e w3 ⟨⟨x3, _, _, rfl⟩, hs3, hb3, _⟩
  have HS3 : Hid (Src w3 w.heap.size a len cap 12) := hs3
  have HB3 : Hid (Below w.heap.size w w3) := HB2.out.trans hb3
  clear hs3 hb3 HS2 HB2
  go_wp2_with fail
  refine (drawSecs_any _ w.heap.size a len cap 12 HS3.out (by omega) hl2).mono ?_
  rintro e w4 ⟨⟨x4, _, _, rfl⟩, hs4, hb4, _⟩
  have HS4 : Hid (Src w4 w.heap.size a len cap 16) := hs4
  have HB4 : Hid (Below w.heap.size w w4) := HB3.out.trans hb4
  clear hs4 hb4 HS3 HB3
  go_wp2_with fail
  refine (l1Pick_s _ w.heap.size a len cap 16 HS4.out [x1, x2, x3, x4, -1, 253402300800] 6 rfl (by omega) (by omega) (by omega) hl2).mono ?_
  rintro e w5 ⟨⟨v, _, rfl⟩, hs5, hb5⟩
  have HB5 : Hid (Below w.heap.size w w5) := HB4.out.trans hb5
  clear hs5 hb5 HS4 HB4
  go_wp2_with fail
  go_ret
  exact ⟨⟨v, rfl⟩, HB5.out⟩
theorem tfieldT (c : Int) (t : ByteArray) (w : World) : (Instr.field 26 (.agg #[.int .i64 c, .string t]) 1).run Tryd.prog w = .ok (.string t) w := by kernel_rfl
theorem fdT_size (n : Int) : (fdT n).size ≤ 29 := by
  cases h : knownB n
  · rw [fdT_no h]; simp [ByteArray.size]
  · rw [fdT_yes h]
    have ⟨h0, h1⟩ := knownB_yes h
    exact Nat.le_of_eq (fmt_size h0 h1)
theorem bytes_row {t : ByteArray} {cap j : Nat} (h : j < t.size) : (bytesRow t cap)[j]? = some (.int .u8 (t[j].toNat : Int)) := by
  unfold bytesRow
  rw [Array.getElem?_append_left (by simpa using h)]
  simp [h]
  rfl
/-- Bytes in a block of their own. -/
structure BRow (w : World) (b : Nat) (l : List UInt8) : Prop where
  cell : ∀ j (h : j < l.length), w.cell? ⟨b, j, none⟩ = some (.int .u8 (l[j].toNat : Int))
  thaw : ∀ j, j < l.length → w.frozen? ⟨b, j, none⟩ = false
theorem brow_new (w : World) (t : ByteArray) (cap : Nat) (ty : TypeId) : BRow (w.alloc (.cells (bytesRow t cap) ty ((bytesRow t cap).size, (bytesRow t cap).size + 1))).drew w.heap.size t.data.toList := by
  constructor
  · intro j hj
    have hj2 : j < t.size := by simpa using hj
    show (w.alloc _).cell? _ = _
    rw [World.cell?_alloc_mark, bytes_row hj2]
    rfl
  · intro j hj
    have hj2 : j < t.size := by simpa using hj
    show (w.alloc _).frozen? _ = _
    rw [World.frozen?_alloc_mark]
    have : t.size ≤ (bytesRow t cap).size := by
      unfold bytesRow
      simp
    simp
    omega
theorem BRow.apart {w w' : World} {B b : Nat} {l : List UInt8} (h : BRow w b l) (ha : Apart B w w') (hn : b ≠ B) : BRow w' b l := by
  by_cases e : l = []
  · subst e
    exact ⟨fun j h => by simp at h, fun j h => by simp at h⟩
  · have h0 : 0 < l.length := List.length_pos_iff.2 e
    have hl : b < w.heap.size := block_lt_of_cell (h.cell 0 h0)
    exact ⟨fun j hj => by rw [ha.cell b j hl hn]; exact h.cell j hj, fun j hj => by rw [ha.frozen b j hl hn]; exact h.thaw j hj⟩
theorem BRow.set {w : World} {b : Nat} {l : List UInt8} (h : BRow w b l) (j : Nat) (hj : j < l.length) (x : UInt8) : BRow (w.setCell ⟨b, j, none⟩ (.int .u8 (x.toNat : Int))) b (l.set j x) := by
  constructor
  · intro i hi0
    have hi : i < l.length := by rw [List.length_set] at hi0; exact hi0
    by_cases e : i = j
    · subst e
      rw [World.cell?_setCell_same _ _ _ (h.cell i hi)]
      simp
    · rw [World.cell?_setCell_other _ _ _ _ (by intro k; have := congrArg Addr.off k; simp at this; omega), h.cell i hi, List.getElem_set_ne (fun k => e k.symm)]
  · intro i hi
    rw [List.length_set] at hi
    rw [World.frozen?_setCell, h.thaw i hi]
theorem BRow.text {w : World} {b : Nat} {l : List UInt8} (h : BRow w b l) (cap : Nat) :
    (convert 22 9 (.slice (some ⟨b, 0, none⟩) l.length cap)).run Tryd.prog w = .ok (.string ⟨l.toArray⟩) w :=
  run_convert_bytes_back (P := Tryd.prog) w 22 9 5 ⟨b, 0, none⟩ cap l Tryd.underlying22 Tryd.underlying5 Tryd.underlying9 (fun j hj => by
    have := h.cell j hj
    have e : (⟨b, 0, none⟩ : Addr).add j = ⟨b, j, none⟩ := by unfold Addr.add; split <;> simp_all
    rw [e]
    exact this)
theorem byte_of {v : Int} (h0 : 0 ≤ v) (h1 : v < 256) : ((UInt8.ofNat v.toNat).toNat : Int) = v := by
  rw [UInt8.toNat_ofNat_of_lt' (by show v.toNat < 256; omega)]
  omega
set_option maxRecDepth 100000 in
set_option maxHeartbeats 4000000 in
theorem drawParseDate_any (w : World) (a : Option Addr) (len cap : Nat) (hc : CodeRow w w.heap.size a len) (hl2 : len ≤ 1048576) :
    Calls Tryd.prog 42 #[.slice a len cap] w fun e w' => (∃ t : ByteArray, e = .returned (.string t)) ∧ Below w.heap.size w w' := by
  have HC : Hid (CodeRow w w.heap.size a len) := hc
  clear hc
  go_enter Tryd.func42, Tryd.ntmps42
  go_wp2_with fail
  refine (l1Source_any w a len cap HC.out).mono ?_
  rintro e w0 ⟨rfl, hs0, hb0⟩
  have HS0 : Hid (Src w0 w.heap.size a len cap 0) := hs0
  have HB0 : Hid (Below w.heap.size w w0) := hb0
  have HC0 : Hid (CodeRow w0 w0.heap.size a len) := (HC.out.below hb0).mono hb0.size
  clear hs0 hb0 HC
  go_wp2_with fail
  refine (drawDateAt_any w0 a len cap HC0.out hl2).mono ?_
  rintro e w1 ⟨⟨n, rfl⟩, hb1⟩
  have HS1 : Hid (Src w1 w.heap.size a len cap 0) := HS0.out.below (hb1.mono HS0.out.lt)
  have HB1 : Hid (Below w.heap.size w w1) := HB0.out.trans (hb1.mono HB0.out.size)
  clear hb1 HS0 HB0 HC0
  go_wp2_with fail
  refine (specFormatDate n _).mono ?_
  rintro e w2 ⟨rfl, hb2⟩
  have HS2 : Hid (Src w2 w.heap.size a len cap 0) := HS1.out.below (hb2.mono HS1.out.lt)
  have HB2 : Hid (Below w.heap.size w w2) := HB1.out.trans (hb2.mono HB1.out.size)
  have hz := fdT_size n
  clear hb2 HS1 HB1
  generalize fdT n = t at *
  generalize kC n = c at *
  have hft := tfieldT
  have zsp : (⟨#[32]⟩ : ByteArray).size = 1 := rfl
  have hadd := fun w => run_string_add_sum (P := Tryd.prog) (w := w) t (⟨#[32]⟩ : ByteArray) (by omega)
  clear zsp
  have HL : Hid (∀ W k, Src W w.heap.size a len cap k → k ≤ 10 → Below w.heap.size w W → Calls Tryd.prog 53 #[.pointer (some ⟨w.heap.size, 0, none⟩), .int .i64 9] W fun e w' => (∃ b : Bool, e = .returned (.bool b)) ∧ Below w.heap.size w w') := fun W k hs hk hb => (l1Chance_s W w.heap.size a len cap k 9 hs (by omega) (by omega) (by omega) hl2).mono fun _ _ ⟨h1, _, h3⟩ => ⟨h1, hb.trans h3⟩
  by_cases h0 : t.size = 0
  · have g0 : ¬ (0 : Int) < (t.size : Int) := by omega
    have g1 : decide ((0 : Int) < (t.size : Int)) = false := decide_eq_false g0
    go_wp2_with fail
    refine (HL.out _ 0 HS2.out (by omega) HB2.out).mono ?_
    rintro e w3 ⟨⟨b, rfl⟩, hb3⟩
    have HB3 : Hid (Below w.heap.size w w3) := hb3
    clear hb3
    cases b
    · go_wp2_with fail
      go_ret
      exact ⟨⟨_, rfl⟩, HB3.out⟩
    · go_wp2_with fail
      go_ret
      exact ⟨⟨_, rfl⟩, HB3.out⟩
  have g0 : (0 : Int) < (t.size : Int) := by omega
  go_wp2_with fail
  refine (l1Chance_s _ w.heap.size a len cap 0 3 HS2.out (by omega) (by omega) (by omega) hl2).mono ?_
  rintro e w3 ⟨⟨b, rfl⟩, hs3, hb3⟩
  have HS3 : Hid (Src w3 w.heap.size a len cap 1) := hs3
  have HB3 : Hid (Below w.heap.size w w3) := HB2.out.trans hb3
  clear hs3 hb3 HS2 HB2
  cases b
  · go_wp2_with fail
    refine (HL.out _ 1 HS3.out (by omega) HB3.out).mono ?_
    rintro e w4 ⟨⟨b, rfl⟩, hb4⟩
    have HB4 : Hid (Below w.heap.size w w4) := hb4
    clear hb4
    cases b
    · go_wp2_with fail
      go_ret
      exact ⟨⟨_, rfl⟩, HB4.out⟩
    · go_wp2_with fail
      go_ret
      exact ⟨⟨_, rfl⟩, HB4.out⟩
  clear HL hadd
  have hcv := fun W => run_bytes_of_string (P := Tryd.prog) W 9 22 5 t Tryd.underlying9 Tryd.underlying22 Tryd.underlying5
  go_wp2_with fail
  obtain ⟨W, hW⟩ : ∃ W, W = (w3.alloc (.cells (bytesRow t (grownCap w3 t.size 0 5)) 5 ((bytesRow t (grownCap w3 t.size 0 5)).size, (bytesRow t (grownCap w3 t.size 0 5)).size + 1))).drew := ⟨_, rfl⟩
  rw [← hW]
  have KR : Hid (BRow W w3.heap.size t.data.toList) := by
    subst hW
    exact brow_new w3 t _ _
  have HSW : Hid (Src W w.heap.size a len cap 1) := by
    subst hW
    exact (HS3.out.alloc _).drew
  have HBW : Hid (Below w.heap.size w W) := by
    subst hW
    exact (HB3.out.alloc HB3.out.size _).drew
  have hne : w.heap.size < w3.heap.size := HS3.out.lt
  clear hW HS3 HB3 hcv
  generalize grownCap w3 t.size 0 5 = cp at *
  generalize w3.heap.size = Rb at *
  clear w3
  have g2 : (1 : Int) ≤ t.size := by omega
  have g3 : (t.size : Int) ≤ 1000000 := by omega
  refine (l1Next_a _ w.heap.size a len cap 1 (t.size : Int) HSW.out (by omega) g2 g3 hl2).mono ?_
  rintro e w4 ⟨⟨x, hx0, hx1, rfl⟩, hs4, hb4, ha4⟩
  obtain ⟨j, rfl⟩ := Int.eq_ofNat_of_zero_le hx0
  have KR4 : Hid (BRow w4 Rb t.data.toList) := KR.out.apart ha4 (by omega)
  have HS4 : Hid (Src w4 w.heap.size a len cap 2) := hs4
  have HB4 : Hid (Below w.heap.size w w4) := HBW.out.trans hb4
  clear hs4 hb4 ha4 KR HSW HBW
  clear W
  go_wp2_with fail
  refine (l1Pick_a _ w.heap.size a len cap 2 HS4.out [48, 49, 51, 97, 32, 83, 57] 7 rfl (by omega) (by omega) (by omega) hl2).mono ?_
  rintro e w5 ⟨⟨v, hv, rfl⟩, _, hb5, ha5⟩
  have KR5 : Hid (BRow w5 Rb t.data.toList) := KR4.out.apart ha5 (by omega)
  have HB5 : Hid (Below w.heap.size w w5) := HB4.out.trans hb5
  have hv2 : 0 ≤ v ∧ v < 256 := by
    simp only [List.mem_cons, List.not_mem_nil, or_false] at hv
    omega
  obtain ⟨hv0, hv1⟩ := hv2
  clear hv hb5 ha5 KR4 HB4 HS4
  have ev : IntKind.u8.wrap v = v := by rw [IntKind.wrap_u8]; omega
  have hjn : j < t.data.toList.length := by
    have : t.data.toList.length = t.size := rfl
    omega
  obtain ⟨u0, p0⟩ : ∃ u, w5.cell? ⟨Rb, j, none⟩ = some (.int .u8 u) := ⟨_, KR5.out.cell j hjn⟩
  have f0 := KR5.out.thaw j hjn
  have hlen : t.data.toList.length = t.size := rfl
  have hcv2 := (KR5.out.set j hjn (UInt8.ofNat v.toNat)).text cp
  rw [byte_of hv0 hv1, List.length_set, hlen] at hcv2
  generalize (⟨(t.data.toList.set j (UInt8.ofNat v.toNat)).toArray⟩ : ByteArray) = r at *
  have g4 : (0 : Int) ≤ j := by omega
  clear KR5 hlen hjn
  go_wp2_with fail
  go_ret
  exact ⟨⟨_, rfl⟩, HB5.out.setCell (Nat.le_of_lt hne) _⟩
end Go.Proofs.YtibomkcbopkpkaaDoor
