/-
  Texts of one claim, one behind the other.
-/
import Derived.MakeChecks
import Derived.Stop.LaidErr
import Derived.Test.YtgfbahjpaaanoaaGreatDoorRows
import Derived.Test.YtgfbahjpaaanoaaGreatDoorPfC
/-
  PolicyOf: the program's answer, for whatever heads; and its law.
-/
namespace Go.Proofs.YtgfbahjpaaanoaaGreatDoor
open Go.ChangeShapes Go.WideShapes Go.ChangeAt Go.RowKit
set_option maxRecDepth 100000 in
set_option maxHeartbeats 4000000 in
theorem implPolicy_any (w : World) (a : Option Addr) (cap : Nat) (l : List Hdr) (hl : l.length ≤ 1048576) (hcap : l.length ≤ cap) (hset : SetIs w) (hpow : num.PowIs w) (hi : HdsIn w a l) :
    Calls Tryz.prog 7 #[.slice a l.length cap] w fun e w' => e = .returned (polRV (headsC l) (polR l)) ∧ Below w.heap.size w w' := by
  by_cases h0 : headsC l = 0
  · rw [polR_ok h0, h0]
    exact implPolicy_ok w a cap l h0 hcap hset hpow hi
  rw [polR_bad h0]
  have HA : Hid (∀ W, Below w.heap.size w W → Calls Tryz.prog 22 #[.slice a l.length cap] W fun e w' => e = .returned (.int .i64 (headsC l)) ∧ Below W.heap.size W w') := fun W hb => implHFault_any W a cap l hl (hset.below hb) (hi.keep hb)
  clear hi hset hpow hcap hl
  generalize headsC l = c at *
  generalize l.length = ln at *
  have hc : (c != 0) = true := by simpa using h0
  clear h0
  have HZ0 : Hid (Z8 (w.alloc (.cells #[.int .i64 0, .bool false, .bool false, .bool false, .int .i64 0, .int .i64 0, .int .i64 0, .int .i64 0] 29)) w.heap.size (.int .i64 0) (.bool false) (.bool false) (.bool false) (.int .i64 0) (.int .i64 0) (.int .i64 0) (.int .i64 0)) := Z8.new w _ _ _ _ _ _ _ _ _
  have HB0 : Hid (Below w.heap.size w (w.alloc (.cells #[.int .i64 0, .bool false, .bool false, .bool false, .int .i64 0, .int .i64 0, .int .i64 0, .int .i64 0] 29))) := (Below.refl _ _).alloc (Nat.le_refl _) _
  go_enter Tryz.func7, Tryz.ntmps7
  go_wp2_with fail
  refine (HA.out _ HB0.out).mono ?_
  rintro e w1 ⟨rfl, hb1⟩
  have HB1 : Hid (Below w.heap.size w w1) := HB0.out.trans (hb1.mono HB0.out.size)
  have HZ1 : Hid (Z8 w1 w.heap.size (.int .i64 0) (.bool false) (.bool false) (.bool false) (.int .i64 0) (.int .i64 0) (.int .i64 0) (.int .i64 0)) := HZ0.out.keep hb1
  clear hb1 HB0 HZ0 HA
  have ZZ : Hid _ := HZ1.out.done HB1.out c false false false 0 0 0 0
  have z0 := HZ1.out.c0
  have z1 := HZ1.out.c1
  have z2 := HZ1.out.c2
  have z3 := HZ1.out.c3
  have z4 := HZ1.out.c4
  have z5 := HZ1.out.c5
  have z6 := HZ1.out.c6
  have z7 := HZ1.out.c7
  have zf0 := HZ1.out.fr 0
  have zf1 := HZ1.out.fr 1
  have zf2 := HZ1.out.fr 2
  have zf3 := HZ1.out.fr 3
  have zf4 := HZ1.out.fr 4
  have zf5 := HZ1.out.fr 5
  have zf6 := HZ1.out.fr 6
  have zf7 := HZ1.out.fr 7
  go_wp2_with fail
  have r0 := ZZ.out.1.c0
  have r1 := ZZ.out.1.c1
  have r2 := ZZ.out.1.c2
  have r3 := ZZ.out.1.c3
  have r4 := ZZ.out.1.c4
  have r5 := ZZ.out.1.c5
  have r6 := ZZ.out.1.c6
  have r7 := ZZ.out.1.c7
  exact bodyPost_ret (v := .agg #[.int .i64 c, .bool false, .bool false, .bool false, .int .i64 0, .int .i64 0, .int .i64 0, .int .i64 0]) (by simp [results, Tryz.results7, go_sem, r0, r1, r2, r3, r4, r5, r6, r7]) rfl ⟨rfl, ZZ.out.2⟩
set_option maxRecDepth 100000 in
set_option maxHeartbeats 4000000 in
theorem lawPolicyOf (w : World) (a : Option Addr) (cap : Nat) (l : List Hdr) (hset : SetIs w) (hpow : num.PowIs w) (hl : l.length ≤ maxLen) (hz : SmallHdrs l) (hi : HdsIn w a l) :
    Calls Tryz.prog 4 #[.slice a l.length cap] w fun e w' => e = .returned (.bool true) ∧ Below w.heap.size w w' := by
  have HZ := szHeaderS_any w a cap l hl hi hz 1048576 (by omega) (by omega)
  have HR : Hid (¬ szHL 1048576 l < 0 → (l.length : Int) ≤ 1048576 ∧ ∀ (i : Nat) r, l[i]? = some r → r.name.size ≤ 1048576 ∧ r.value.size ≤ 1048576) := szHL_room (by omega)
  have HI : Hid (HdsIn w a l) := hi
  have HS : Hid (SetIs w) := hset
  have HP : Hid (num.PowIs w) := hpow
  generalize szHL 1048576 l = z at *
  clear hz hi hl hset hpow
  go_enter Tryz.func4, Tryz.ntmps4
  go_wp2_with fail
  refine HZ.mono ?_
  rintro e w1 ⟨rfl, hb1⟩
  clear HZ
  by_cases c : z < 0
  · go_wp2_with fail
    go_ret
    exact ⟨rfl, hb1⟩
  obtain ⟨hlen, hsm⟩ := HR.out (by omega)
  have HT : Hid (∀ W, Below w.heap.size w W → Calls Tryz.prog 15 #[.slice a l.length cap] W fun e w' => e = .returned (.slice (some ⟨W.heap.size, 0, none⟩) l.length l.length) ∧ HeadsAt w' W.heap.size 0 l ∧ Below W.heap.size W w') := fun W hb => toHeaderS_any W a cap l (by omega) (HI.out.keep hb)
  have HF : Hid (∀ W b, HeadsAt W b 0 l → Calls Tryz.prog 8 #[.slice (some ⟨b, 0, none⟩) l.length l.length] W fun e w' => e = .returned (polRV (headsC l) (polR l)) ∧ Below W.heap.size W w') := fun W b h => specPolicy_any W _ _ l (by omega) (.inr ⟨b, 0, rfl, h⟩)
  have HG : Hid (∀ W b, Below w.heap.size w W → HeadsAt W b 0 l → Calls Tryz.prog 7 #[.slice (some ⟨b, 0, none⟩) l.length l.length] W fun e w' => e = .returned (polRV (headsC l) (polR l)) ∧ Below W.heap.size W w') := fun W b hb h => implPolicy_any W _ _ l (by omega) (Nat.le_refl _) (HS.out.below hb) (HP.out.below hb) (.inr ⟨b, 0, rfl, h⟩)
  have HE : Hid (∀ W b1 b2, HeadsAt W b1 0 l → HeadsAt W b2 0 l → Calls Tryz.prog 17 #[.slice (some ⟨b1, 0, none⟩) l.length l.length, .slice (some ⟨b2, 0, none⟩) l.length l.length] W fun e w' => e = .returned (.bool true) ∧ Below W.heap.size W w') := fun W b1 b2 h1 h2 => eqHeaderS_same W b1 0 b2 0 _ _ l (by omega) h1 h2
  clear HR hsm HI
  generalize l.length = n at *
  generalize headsC l = fc at *
  generalize polR l = pq at *
  have HQ : Hid (∀ W, Calls Tryz.prog 16 #[polRV fc pq, polRV fc pq] W fun r w' => r = .returned (.bool true) ∧ Below W.heap.size W w') := eqPolicyResult_same fc pq
  obtain ⟨q0, q1, q2, q3, q4, q5, q6⟩ := pq
  have erv : polRV fc ⟨q0, q1, q2, q3, q4, q5, q6⟩ = .agg #[.int .i64 fc, .bool q0, .bool q1, .bool q2, .int .i64 q3, .int .i64 q4, .int .i64 q5, .int .i64 q6] := rfl
  rw [erv] at HF HG HQ
  clear erv
  have HB1 : Hid (Below w.heap.size w w1) := hb1
  clear hb1
  go_wp2_with fail
  refine (HT.out _ HB1.out).mono ?_
  rintro e w2 ⟨rfl, hat2, hb2⟩
  have HB2 : Hid (Below w.heap.size w w2) := HB1.out.trans (hb2.mono HB1.out.size)
  clear hb2 HB1
  go_wp2_with fail
  refine (HF.out _ _ hat2).mono ?_
  rintro e w3 ⟨rfl, hb3⟩
  have HB3 : Hid (Below w.heap.size w w3) := HB2.out.trans (hb3.mono HB2.out.size)
  clear hb3 HB2 hat2 HF
  obtain ⟨W3, hW3⟩ : ∃ W, W = w3.alloc (.cells #[.int .i64 fc, .bool q0, .bool q1, .bool q2, .int .i64 q3, .int .i64 q4, .int .i64 q5, .int .i64 q6] 29) := ⟨_, rfl⟩
  have HW3 : Hid (W3 = w3.alloc (.cells #[.int .i64 fc, .bool q0, .bool q1, .bool q2, .int .i64 q3, .int .i64 q4, .int .i64 q5, .int .i64 q6] 29)) := hW3
  have K3 : Hid (Below w.heap.size w W3 ∧ Z8 W3 w3.heap.size (.int .i64 fc) (.bool q0) (.bool q1) (.bool q2) (.int .i64 q3) (.int .i64 q4) (.int .i64 q5) (.int .i64 q6)) := by
    subst hW3
    exact ⟨HB3.out.alloc HB3.out.size _, Z8.new w3 _ _ _ _ _ _ _ _ _⟩
  clear hW3 HB3
  go_wp2_with fail
  rw [← HW3.out]
  clear HW3
  generalize w3.heap.size = B3 at *
  clear w3
  refine (HT.out _ K3.out.1).mono ?_
  rintro e w4 ⟨rfl, hat4, hb4⟩
  have K4 : Hid (Below w.heap.size w w4 ∧ Z8 w4 B3 (.int .i64 fc) (.bool q0) (.bool q1) (.bool q2) (.int .i64 q3) (.int .i64 q4) (.int .i64 q5) (.int .i64 q6) ∧ HeadsAt w4 W3.heap.size 0 l) := ⟨K3.out.1.trans (hb4.mono K3.out.1.size), K3.out.2.keep hb4, hat4⟩
  clear hb4 K3 hat4
  generalize W3.heap.size = B4 at *
  clear W3
  go_wp2_with fail
  refine (HG.out _ _ K4.out.1 K4.out.2.2).mono ?_
  rintro e w5 ⟨rfl, hb5⟩
  obtain ⟨k1, k2, k4⟩ := K4.out
  have b5 := k1.trans (hb5.mono k1.size)
  have k2' := k2.keep hb5
  obtain ⟨d0, d1, d2, d3, d4, d5, d6, d7, _, hlt⟩ := k2'
  have K5 : Hid (Below w.heap.size w (w5.alloc (.cells #[.int .i64 fc, .bool q0, .bool q1, .bool q2, .int .i64 q3, .int .i64 q4, .int .i64 q5, .int .i64 q6] 29)) ∧ HeadsAt (w5.alloc (.cells #[.int .i64 fc, .bool q0, .bool q1, .bool q2, .int .i64 q3, .int .i64 q4, .int .i64 q5, .int .i64 q6] 29)) B4 0 l) :=
    ⟨b5.alloc b5.size _, (k4.keep hb5).keep ((Below.refl _ _).alloc (Nat.le_refl _) _)⟩
  clear K4 hb5 HG HS k1 k2 k4 b5
  have rne : ¬ B3 = w5.heap.size := by omega
  go_wp2_with fail
  refine (HQ.out _).mono ?_
  rintro e w6 ⟨rfl, hb6⟩
  have K6 : Hid (Below w.heap.size w w6 ∧ HeadsAt w6 B4 0 l) := ⟨K5.out.1.trans (hb6.mono K5.out.1.size), K5.out.2.keep hb6⟩
  clear hb6 K5 HQ
  go_wp2_with fail
  refine (HT.out _ K6.out.1).mono ?_
  rintro e w7 ⟨rfl, hat7, hb7⟩
  have K7 : Hid (Below w.heap.size w w7 ∧ HeadsAt w7 B4 0 l ∧ HeadsAt w7 w6.heap.size 0 l) := ⟨K6.out.1.trans (hb7.mono K6.out.1.size), K6.out.2.keep hb7, hat7⟩
  clear hb7 K6 hat7
  go_wp2_with fail
  refine (HE.out _ _ _ K7.out.2.1 K7.out.2.2).mono ?_
  rintro e w8 ⟨rfl, hb8⟩
  have K8 : Hid (Below w.heap.size w w8) := K7.out.1.trans (hb8.mono K7.out.1.size)
  clear hb8
  go_wp2_with fail
  go_ret
  exact ⟨rfl, K8.out⟩
end Go.Proofs.YtgfbahjpaaanoaaGreatDoor
/-
  Head lines that came in, opened.
-/
namespace Go.Proofs.YtgfbahjpaaanoaaGreatDoor
open Go.ChangeShapes Go.WideShapes Go.ChangeAt Go.RowKit Go.Deep
theorem headerCells : Tryz.prog.cellsOf 78 = 2 := by kernel_rfl
theorem hOneS : Tryz.prog.cellsOf 9 = 1 := by kernel_rfl
theorem hdr_of {H : Type} {enc : TypeId × Value → H} {w : World} {base : Nat} {spare : Nat → Bool} {held : Bool} {fuel : Nat} {cs : List Value} {x : DataW H × List MemPlace}
    (h : DataW.trod enc Tryz.prog w base spare held fuel 78 cs = some x) : ∃ r : Hdr, cs = [.string r.name, .string r.value] ∧ r.name.size ≤ maxLen ∧ r.value.size ≤ maxLen := by
  obtain ⟨y0, y1, n, _, hl, h0, h2⟩ := trod_struct2 Tryz.underlying78 h
  rw [headerCells] at hl
  simp only [hOneS] at h0 h2
  obtain ⟨s0, e0, _, z0⟩ := DataW.trod_string Tryz.underlying9 h0
  obtain ⟨s2, e2, _, z2⟩ := DataW.trod_string Tryz.underlying9 h2
  match cs, hl with
  | [c0, c2], _ =>
    simp only [List.drop_zero, List.take_succ_cons, List.take_zero, List.drop_succ_cons, List.cons.injEq, and_true] at e0 e2
    exact ⟨⟨s0, s2⟩, by rw [e0, e2], z0, z2⟩
theorem open_headers {H : Type} {enc : TypeId × Value → H} {w : World} {base : Nat} {spare : Nat → Bool} {held : Bool} {fuel : Nat} {a : Option Addr} {len cap : Nat} {x : DataW H × List MemPlace}
    (h : DataW.trod enc Tryz.prog w base spare held fuel 37 [.slice a len cap] = some x) :
    ∃ l : List Hdr, l.length = len ∧ len ≤ maxLen ∧ SmallHdrs l ∧ (l = [] ∨ ∃ b off, a = some ⟨b, off, none⟩ ∧ HeadsAt w b off l) := by
  rcases open_slice Tryz.underlying37 h with ⟨hcs, _⟩ | ⟨A, len', cap', m, n, D, Pl, hcs, _, hl, hm, hmm, _, hel⟩
  · simp only [List.cons.injEq, Value.slice.injEq, and_true] at hcs
    obtain ⟨_, rfl, _⟩ := hcs
    exact ⟨[], rfl, by unfold maxLen; omega, fun i r hr => by simp at hr, .inl rfl⟩
  · simp only [List.cons.injEq, Value.slice.injEq, and_true] at hcs
    obtain ⟨rfl, rfl, rfl⟩ := hcs
    have hlm : len ≤ m := by rw [hmm]; split <;> omega
    have hrec : ∀ i, i < len → ∃ r : Hdr, w.cells? base (A.add (i * 2)) 2 = some [.string r.name, .string r.value] ∧ r.name.size ≤ maxLen ∧ r.value.size ≤ maxLen := by
      intro i hi
      obtain ⟨cs', hc, ht⟩ := hel i (by omega)
      rw [headerCells] at hc
      obtain ⟨r, rfl, z⟩ := hdr_of ht
      exact ⟨r, hc, z⟩
    obtain ⟨f, hf⟩ : ∃ f : Nat → Hdr, ∀ i, i < len → w.cells? base (A.add (i * 2)) 2 = some [.string (f i).name, .string (f i).value] ∧ (f i).name.size ≤ maxLen ∧ (f i).value.size ≤ maxLen := by
      classical
      refine ⟨fun i => if hi : i < len then (hrec i hi).choose else ⟨.empty, .empty⟩, fun i hi => ?_⟩
      simp only [dif_pos hi]
      exact (hrec i hi).choose_spec
    refine ⟨(List.range len).map f, by simp, by omega, ?_, ?_⟩
    · intro i r hr
      rw [List.getElem?_map] at hr
      obtain ⟨j, hj, rfl⟩ := Option.map_eq_some_iff.1 hr
      obtain ⟨hlt, rfl⟩ := List.getElem?_eq_some_iff.1 hj
      simp at hlt
      simpa using (hf i hlt).2
    · by_cases h0 : len = 0
      · subst h0; exact .inl rfl
      · obtain ⟨b, off, spot⟩ := A
        have cells : ∀ i, i < len → ∀ j, j < 2 → w.cell? ((⟨b, off, spot⟩ : Addr).add (i * 2 + j)) = ([.string (f i).name, .string (f i).value] : List Value)[j]? := by
          intro i hi j hj
          have c := (World.cells?_some (hf i hi).1).2.2 j hj
          rw [add_add] at c
          exact c
        have hs : spot = none := by
          have c := cells 0 (by omega) 0 (by omega)
          simp only [Nat.zero_mul, Nat.add_zero, List.getElem?_cons_zero] at c
          simpa [Addr.add] using World.cell?_spot c
        subst hs
        have hadd : ∀ i, (⟨b, off, none⟩ : Addr).add i = ⟨b, off + i, none⟩ := fun i => by unfold Addr.add; split <;> simp_all
        refine .inr ⟨b, off, rfl, fun i r hr => ?_⟩
        rw [List.getElem?_map] at hr
        obtain ⟨j, hj, rfl⟩ := Option.map_eq_some_iff.1 hr
        obtain ⟨hlt, rfl⟩ := List.getElem?_eq_some_iff.1 hj
        simp only [List.length_range] at hlt
        simp only [List.getElem_range]
        have q0 := cells i hlt 0 (by omega)
        have q1 := cells i hlt 1 (by omega)
        rw [hadd] at q0 q1
        exact ⟨by simpa using q0, by simpa [Nat.add_assoc] using q1⟩
end Go.Proofs.YtgfbahjpaaanoaaGreatDoor
/-
  What the row's list gives of the table of powers of ten.
-/
namespace Go.Proofs.YtgfbahjpaaanoaaGreatDoor
namespace num
theorem powType : (Tryz.prog.globals[4]?).map (·.type) = some 193 := by kernel_rfl
theorem powTab {H : Type} : (Rows.laid_internal_strconv_uint64pow10 : DataW H) = Lib.tabData .u64 Lib.pow10Tab := by kernel_rfl
theorem pow_of {w : World} {rest : List (String × DataW Unit)} (h : laidMet Tryz.prog (("internal/strconv.uint64pow10", Rows.laid_internal_strconv_uint64pow10) :: rest) w) : PowIs w := by
  rw [powTab] at h
  exact Lib.tabIs_of_head powNamed powType Tryz.underlying193 Tryz.underlying187 (by kernel_rfl) (by kernel_rfl) h
end num
end Go.Proofs.YtgfbahjpaaanoaaGreatDoor
