/-
  Responses that came in: measured, taken over, compared.
-/
import Derived.Test.YtojcjpdgjohldabMsgLaws
import Derived.Test.YtojcjpdgjohldabByteRows
namespace Go.Proofs.Ytojcjpdgjohldab
open Go.ChangeShapes Go.WideShapes Go.ChangeAt Go.RowKit
structure Three (W : World) (B : Nat) (v0 v1 v2 : Value) : Prop where
  c0 : W.cell? ⟨B, 0, none⟩ = some v0
  c1 : W.cell? ⟨B, 1, none⟩ = some v1
  c2 : W.cell? ⟨B, 2, none⟩ = some v2
  fr : ∀ o, W.frozen? ⟨B, o, none⟩ = false
  lt : B < W.heap.size
theorem Three.keep {W W' : World} {B : Nat} {v0 v1 v2 : Value} (h : Three W B v0 v1 v2) (hb : Below W.heap.size W W') : Three W' B v0 v1 v2 :=
  ⟨by rw [hb.cell (p := ⟨B, 0, none⟩) h.lt]; exact h.c0, by rw [hb.cell (p := ⟨B, 1, none⟩) h.lt]; exact h.c1, by rw [hb.cell (p := ⟨B, 2, none⟩) h.lt]; exact h.c2,
    fun o => by rw [hb.frozen (p := ⟨B, o, none⟩) h.lt]; exact h.fr o, Nat.lt_of_lt_of_le h.lt hb.size⟩
theorem Three.new (W : World) (v0 v1 v2 : Value) (t : TypeId) : Three (W.alloc (.cells #[v0, v1, v2] t)) W.heap.size v0 v1 v2 :=
  ⟨by rw [World.cell?_alloc_mark]; rfl, by rw [World.cell?_alloc_mark]; rfl, by rw [World.cell?_alloc_mark]; rfl, fun o => by have e := heap_alloc_new W (.cells #[v0, v1, v2] t); unfold World.frozen?; rw [e]; simp, by simp⟩
def szP (left : Int) (l : List Hdr) (n : Nat) : Int := if szHL left l < 0 then -1 else if szHL left l - (n : Int) < 0 then -1 else szHL left l - (n : Int)
theorem szP_room {left : Int} {l : List Hdr} {n : Nat} (hl : left ≤ 1048576) (hz : ¬ szP left l n < 0) : l.length ≤ 1048576 ∧ n ≤ 1048576 ∧ szP left l n ≤ left := by
  unfold szP at hz ⊢
  by_cases c1 : szHL left l < 0
  · rw [if_pos c1] at hz; omega
  rw [if_neg c1] at hz ⊢
  by_cases c2 : szHL left l - (n : Int) < 0
  · rw [if_pos c2] at hz; omega
  rw [if_neg c2] at hz ⊢
  have a := (szHL_room hl c1).1
  have b := szHL_le c1
  exact ⟨by omega, by omega, by omega⟩
set_option maxHeartbeats 2000000 in
theorem szResponse_any (w : World) (s : Int) (a : Option Addr) (cap : Nat) (l : List Hdr) (b : Option Addr) (bn bc : Nat) (hl : l.length ≤ maxLen) (hz : SmallHdrs l) (hi : HdsIn w a l) (hbn : bn ≤ maxLen) (left : Int) (h0 : 0 ≤ left) (h1 : left ≤ 1048576) :
    Calls Try.prog 4 #[.agg #[.int .i64 s, .slice a l.length cap, .slice b bn bc], .int .i64 left] w fun e w' => e = .returned (.int .i64 (szP left l bn)) ∧ Below w.heap.size w w' := by
  obtain ⟨W, hW⟩ : ∃ W, W = w.alloc (.cells #[.int .i64 s, .slice a l.length cap, .slice b bn bc] 25) := ⟨_, rfl⟩
  have HW : Hid (W = w.alloc (.cells #[.int .i64 s, .slice a l.length cap, .slice b bn bc] 25)) := hW
  have bW : Below w.heap.size w W := by rw [hW]; exact (Below.refl _ _).alloc (Nat.le_refl _) _
  have fW : Three W w.heap.size (.int .i64 s) (.slice a l.length cap) (.slice b bn bc) := by rw [hW]; exact Three.new _ _ _ _ _
  have HB : Hid (Below w.heap.size w W) := bW
  have C := szHeaderS_any W a cap l hl (hi.keep bW) hz left h0 h1
  have HV1 : Hid (szHL left l < 0 → szP left l bn = -1) := fun c => by unfold szP; rw [if_pos c]
  have HV2 : Hid (¬ szHL left l < 0 → szHL left l - (bn : Int) < 0 → szP left l bn = -1) := fun c c2 => by unfold szP; rw [if_neg c, if_pos c2]
  have HV3 : Hid (¬ szHL left l < 0 → ¬ szHL left l - (bn : Int) < 0 → szP left l bn = szHL left l - (bn : Int)) := fun c c2 => by unfold szP; rw [if_neg c, if_neg c2]
  have HLE : Hid (¬ szHL left l < 0 → szHL left l ≤ left) := szHL_le
  have F : Hid (Three W w.heap.size (.int .i64 s) (.slice a l.length cap) (.slice b bn bc)) := fW
  clear hW bW hi hz fW
  generalize szHL left l = z at *
  generalize szP left l bn = q at *
  generalize l.length = n at *
  go_enter Try.func4, Try.ntmps4
  go_wp2_with fail
  rw [← HW.out]
  refine C.mono ?_
  rintro e w1 ⟨rfl, hb1⟩
  have HB1 : Hid (Below w.heap.size w w1) := HB.out.trans (hb1.mono HB.out.size)
  have c2 := (F.out.keep hb1).c2
  clear hb1 HB C HW F
  by_cases c4 : z < 0
  · have HV : Hid (q = -1) := HV1.out c4
    clear HV1 HV2 HV3 HLE
    go_wp2_with fail
    go_ret
    exact ⟨ret_int HV.out.symm, HB1.out⟩
  have hz1 := HLE.out (by omega)
  have C2 := szByteS_any b bn bc z w1 (by omega) (by omega) hbn
  by_cases c5 : z - (bn : Int) < 0
  · have HV : Hid (q = -1) := HV2.out (by omega) (by omega)
    rw [if_pos c5] at C2
    clear HV1 HV2 HV3 HLE
    go_wp2_with fail
    refine C2.mono ?_
    rintro e w2 ⟨rfl, hw⟩
    obtain rfl := hw.symm
    clear C2 hw
    go_wp2_with fail
    go_ret
    exact ⟨ret_int HV.out.symm, HB1.out⟩
  · have HV : Hid (q = z - (bn : Int)) := HV3.out (by omega) (by omega)
    rw [if_neg c5] at C2
    clear HV1 HV2 HV3 HLE
    generalize z - (bn : Int) = y at *
    go_wp2_with fail
    refine C2.mono ?_
    rintro e w2 ⟨rfl, hw⟩
    obtain rfl := hw.symm
    clear C2 hw
    go_wp2_with fail
    go_ret
    exact ⟨ret_int HV.out.symm, HB1.out⟩
/-- A response of the law's own. -/
def RespRes (k : Nat) (s : Int) (l : List Hdr) (bl : List UInt8) (e : Ending) (w' : World) : Prop :=
  ∃ B, e = .returned (.agg #[.int .i64 s, .slice (some ⟨k + 3, 0, none⟩) l.length l.length, .slice (some ⟨B, 0, none⟩) bl.length bl.length]) ∧ QMine w' (k + 3) l ∧ BMine w' B bl ∧ k + 3 < B
set_option maxHeartbeats 4000000 in
theorem toResponse_any (w : World) (s : Int) (a : Option Addr) (cap : Nat) (l : List Hdr) (b : Option Addr) (bc : Nat) (bl : List UInt8) (hl : l.length ≤ 1048576) (hbl : bl.length ≤ 1048576) (hi : HdsIn w a l) (hib : BIn w b bl) :
    Calls Try.prog 6 #[.agg #[.int .i64 s, .slice a l.length cap, .slice b bl.length bc]] w fun e w' => RespRes w.heap.size s l bl e w' ∧ Below w.heap.size w w' := by
  obtain ⟨W, hW⟩ : ∃ W, W = ((w.alloc (.cells #[.int .i64 s, .slice a l.length cap, .slice b bl.length bc] 25)).alloc (.cells #[.int .i64 0, .slice none 0 0, .slice none 0 0] 30)).alloc (.cells #[.int .i64 s, .slice none 0 0, .slice none 0 0] 30) := ⟨_, rfl⟩
  have HW : Hid (W = ((w.alloc (.cells #[.int .i64 s, .slice a l.length cap, .slice b bl.length bc] 25)).alloc (.cells #[.int .i64 0, .slice none 0 0, .slice none 0 0] 30)).alloc (.cells #[.int .i64 s, .slice none 0 0, .slice none 0 0] 30)) := hW
  have bW : Below w.heap.size w W := by rw [hW]; exact (((Below.refl _ _).alloc (Nat.le_refl _) _).alloc (by simp) _).alloc (by simp; omega) _
  have hsz : W.heap.size = w.heap.size + 3 := by rw [hW]; simp
  have f2 : Three W (w.heap.size + 2) (.int .i64 s) (.slice none 0 0) (.slice none 0 0) := by
    rw [hW]
    have := Three.new ((w.alloc (.cells #[.int .i64 s, .slice a l.length cap, .slice b bl.length bc] 25)).alloc (.cells #[.int .i64 0, .slice none 0 0, .slice none 0 0] 30)) (.int .i64 s) (.slice none 0 0) (.slice none 0 0) 30
    simpa using this
  have f1 : Three W (w.heap.size + 1) (.int .i64 0) (.slice none 0 0) (.slice none 0 0) := by
    rw [hW]
    have := (Three.new (w.alloc (.cells #[.int .i64 s, .slice a l.length cap, .slice b bl.length bc] 25)) (.int .i64 0) (.slice none 0 0) (.slice none 0 0) 30).keep ((Below.refl _ _).alloc (Nat.le_refl _) (.cells #[.int .i64 s, .slice none 0 0, .slice none 0 0] 30))
    simpa using this
  have f0 : Three W w.heap.size (.int .i64 s) (.slice a l.length cap) (.slice b bl.length bc) := by
    rw [hW]
    exact ((Three.new w (.int .i64 s) (.slice a l.length cap) (.slice b bl.length bc) 25).keep ((Below.refl _ _).alloc (Nat.le_refl _) _)).keep ((Below.refl _ _).alloc (Nat.le_refl _) _)
  have C := toHeaderS_free W a cap l hl (hi.keep bW)
  rw [hsz] at C
  have HB : Hid (Below w.heap.size w W) := bW
  have HZ : Hid (W.heap.size = w.heap.size + 3) := hsz
  have HC : Hid (∀ X, Below w.heap.size w X → Calls Try.prog 13 #[.slice b bl.length bc] X fun e w' => e = .returned (.slice (some ⟨X.heap.size, 0, none⟩) bl.length bl.length) ∧ BMine w' X.heap.size bl ∧ Below X.heap.size X w') := fun X hb => toByteS_any X b bc bl hbl (hib.keep hb)
  have F : Hid (Three W w.heap.size (.int .i64 s) (.slice a l.length cap) (.slice b bl.length bc) ∧ Three W (w.heap.size + 1) (.int .i64 0) (.slice none 0 0) (.slice none 0 0) ∧ Three W (w.heap.size + 2) (.int .i64 s) (.slice none 0 0) (.slice none 0 0)) := ⟨f0, f1, f2⟩
  clear hW bW hi hsz f1 f2 f0 hib
  have HRes : Hid (∀ e w', RespRes w.heap.size s l bl e w' ↔ RespRes w.heap.size s l bl e w') := fun _ _ => Iff.rfl
  generalize hn : l.length = n at *
  generalize hbn : bl.length = bn at *
  have HN : Hid (l.length = n ∧ bl.length = bn) := ⟨hn, hbn⟩
  clear hn hbn HRes
  go_enter Try.func6, Try.ntmps6
  go_wp2_with fail
  rw [← HW.out]
  refine C.mono ?_
  rintro e w1 ⟨rfl, hat, hlt, hfr, hb1⟩
  have hb1' : Below W.heap.size W w1 := by rw [HZ.out]; exact hb1
  obtain ⟨g0, g1, g2⟩ := F.out
  have HM1 : Hid (QMine w1 (w.heap.size + 3) l ∧ Below w.heap.size w w1 ∧ Three w1 w.heap.size (.int .i64 s) (.slice a n cap) (.slice b bn bc) ∧ Three w1 (w.heap.size + 1) (.int .i64 0) (.slice none 0 0) (.slice none 0 0)) := ⟨⟨hat, hfr, hlt⟩, HB.out.trans (hb1'.mono HB.out.size), g0.keep hb1', g1.keep hb1'⟩
  obtain ⟨a0, a1, a2, af, al⟩ := g2.keep hb1'
  have a1f := af 1
  obtain ⟨V, hV⟩ : ∃ V, V = w1.setCell ⟨w.heap.size + 2, 1, none⟩ (.slice (some ⟨w.heap.size + 3, 0, none⟩) n n) := ⟨_, rfl⟩
  have HV : Hid (V = w1.setCell ⟨w.heap.size + 2, 1, none⟩ (.slice (some ⟨w.heap.size + 3, 0, none⟩) n n)) := hV
  have ne : ∀ k j o : Nat, k ≠ w.heap.size + 2 → (⟨w.heap.size + 2, j, none⟩ : Addr) ≠ ⟨k, o, none⟩ := fun k j o hk e => by have := congrArg Addr.block e; simp only at this; omega
  have keepc : ∀ k o, k ≠ w.heap.size + 2 → V.cell? ⟨k, o, none⟩ = w1.cell? ⟨k, o, none⟩ := fun k o hk => by rw [hV, World.cell?_setCell_other _ _ _ _ (ne _ _ _ hk)]
  have keepf : ∀ k o, V.frozen? ⟨k, o, none⟩ = w1.frozen? ⟨k, o, none⟩ := fun k o => by rw [hV, World.frozen?_setCell]
  have hVs : V.heap.size = w1.heap.size := by rw [hV]; simp
  have t2 : Three V (w.heap.size + 2) (.int .i64 s) (.slice (some ⟨w.heap.size + 3, 0, none⟩) n n) (.slice none 0 0) := by
    refine ⟨?_, ?_, ?_, fun o => by rw [keepf]; exact af o, by rw [hVs]; exact al⟩
    · rw [hV, World.cell?_setCell_other _ _ _ _ (hoff_ne (by omega))]; exact a0
    · rw [hV]; exact World.cell?_setCell_same _ _ _ a1
    · rw [hV, World.cell?_setCell_other _ _ _ _ (hoff_ne (by omega))]; exact a2
  obtain ⟨q1, q2, q3, q4⟩ := HM1.out
  have K : Hid (QMine V (w.heap.size + 3) l ∧ Below w.heap.size w V ∧ Three V w.heap.size (.int .i64 s) (.slice a n cap) (.slice b bn bc) ∧ Three V (w.heap.size + 1) (.int .i64 0) (.slice none 0 0) (.slice none 0 0) ∧ Three V (w.heap.size + 2) (.int .i64 s) (.slice (some ⟨w.heap.size + 3, 0, none⟩) n n) (.slice none 0 0)) := by
    refine ⟨⟨fun i r hr => by rw [keepc _ _ (by omega), keepc _ _ (by omega)]; exact q1.at0 i r hr, fun o => by rw [keepf]; exact q1.free o, by rw [hVs]; exact q1.lt⟩, by rw [hV]; exact q2.setCell (by simp) _, ?_, ?_, t2⟩
    · exact ⟨by rw [keepc _ _ (by omega)]; exact q3.c0, by rw [keepc _ _ (by omega)]; exact q3.c1, by rw [keepc _ _ (by omega)]; exact q3.c2, fun o => by rw [keepf]; exact q3.fr o, by rw [hVs]; exact q3.lt⟩
    · exact ⟨by rw [keepc _ _ (by omega)]; exact q4.c0, by rw [keepc _ _ (by omega)]; exact q4.c1, by rw [keepc _ _ (by omega)]; exact q4.c2, fun o => by rw [keepf]; exact q4.fr o, by rw [hVs]; exact q4.lt⟩
  have C2 := HC.out V K.out.2.1
  have gc2 := q3.c2
  clear hat hlt hfr hb1 hb1' C HW HB HZ F af al g0 g1 g2 HM1 q1 q2 q3 q4 t2 keepc keepf hVs ne hV HC
  go_wp2_with fail
  have hVx := HV.out
  rw [← hVx]
  refine C2.mono ?_
  rintro e w2 ⟨rfl, hbm, hb2⟩
  obtain ⟨q1, q2, q3, q4, q5⟩ := K.out
  have k1 := q1.keep hb2
  have k4 := q4.keep hb2
  have k5 := q5.keep hb2
  have HM : Hid (QMine w2 (w.heap.size + 3) l ∧ BMine w2 V.heap.size bl ∧ Below w.heap.size w w2 ∧ w.heap.size + 3 < V.heap.size) := ⟨k1, hbm, q2.trans (hb2.mono q2.size), q1.lt⟩
  obtain ⟨a0, a1, a2, af, _⟩ := k5
  obtain ⟨b0, b1, b2, bf, _⟩ := k4
  have a2f := af 2
  have b0f := bf 0
  have b1f := bf 1
  have b2f := bf 2
  clear C2 hb2 hbm K q1 q2 q3 q4 q5 k1 af bf HV hVx
  generalize V.heap.size = B at *
  go_wp2_with fail
  obtain ⟨m1, m2, m3, m4⟩ := HM.out
  obtain ⟨rfl, rfl⟩ := HN.out
  refine bodyPost_ret (v := .agg #[.int .i64 s, .slice (some ⟨w.heap.size + 3, 0, none⟩) l.length l.length, .slice (some ⟨B, 0, none⟩) bl.length bl.length]) ?_ rfl ⟨⟨B, rfl, ?_, ?_, m4⟩, ?_⟩
  · simp [results, Try.results6, go_sem, b0, b1, b2]
  · have ne : ∀ k j o : Nat, k < w.heap.size + 3 → (⟨k, j, none⟩ : Addr) ≠ ⟨w.heap.size + 3, o, none⟩ := fun k j o hk e => by have := congrArg Addr.block e; simp only at this; omega
    refine ⟨fun i r hr => ?_, fun o => by simp only [World.frozen?_setCell]; exact m1.free o, by simpa using m1.lt⟩
    rw [World.cell?_setCell_other _ _ _ _ (ne _ _ _ (by omega)), World.cell?_setCell_other _ _ _ _ (ne _ _ _ (by omega)), World.cell?_setCell_other _ _ _ _ (ne _ _ _ (by omega)), World.cell?_setCell_other _ _ _ _ (ne _ _ _ (by omega)), World.cell?_setCell_other _ _ _ _ (ne _ _ _ (by omega)), World.cell?_setCell_other _ _ _ _ (ne _ _ _ (by omega)), World.cell?_setCell_other _ _ _ _ (ne _ _ _ (by omega)), World.cell?_setCell_other _ _ _ _ (ne _ _ _ (by omega))]
    exact m1.at0 i r hr
  · have ne : ∀ k j o : Nat, k < w.heap.size + 3 → (⟨k, j, none⟩ : Addr) ≠ ⟨B, o, none⟩ := fun k j o hk e => by have := congrArg Addr.block e; simp only at this; omega
    refine ⟨fun i r hr => ?_, fun o => by simp only [World.frozen?_setCell]; exact m2.free o, by simpa using m2.lt⟩
    rw [World.cell?_setCell_other _ _ _ _ (ne _ _ _ (by omega)), World.cell?_setCell_other _ _ _ _ (ne _ _ _ (by omega)), World.cell?_setCell_other _ _ _ _ (ne _ _ _ (by omega)), World.cell?_setCell_other _ _ _ _ (ne _ _ _ (by omega))]
    exact m2.at0 i r hr
  · exact (((m3.setCell (by simp; omega) _).setCell (by simp) _).setCell (by simp) _).setCell (by simp) _
set_option maxHeartbeats 2000000 in
theorem eqResponse_same (W : World) (s : Int) (b1 b2 : Nat) (l : List Hdr) (d1 d2 : Nat) (bl : List UInt8) (hl : l.length ≤ 1048576) (hbl : bl.length ≤ 1048576) (h1 : HeadsAt W b1 0 l) (h2 : HeadsAt W b2 0 l) (k1 : BMine W d1 bl) (k2 : BMine W d2 bl) :
    Calls Try.prog 8 #[.agg #[.int .i64 s, .slice (some ⟨b1, 0, none⟩) l.length l.length, .slice (some ⟨d1, 0, none⟩) bl.length bl.length], .agg #[.int .i64 s, .slice (some ⟨b2, 0, none⟩) l.length l.length, .slice (some ⟨d2, 0, none⟩) bl.length bl.length]] W fun e w' => e = .returned (.bool true) ∧ Below W.heap.size W w' := by
  obtain ⟨V, hV⟩ : ∃ V, V = (W.alloc (.cells #[.int .i64 s, .slice (some ⟨b1, 0, none⟩) l.length l.length, .slice (some ⟨d1, 0, none⟩) bl.length bl.length] 30)).alloc (.cells #[.int .i64 s, .slice (some ⟨b2, 0, none⟩) l.length l.length, .slice (some ⟨d2, 0, none⟩) bl.length bl.length] 30) := ⟨_, rfl⟩
  have HV : Hid (V = (W.alloc (.cells #[.int .i64 s, .slice (some ⟨b1, 0, none⟩) l.length l.length, .slice (some ⟨d1, 0, none⟩) bl.length bl.length] 30)).alloc (.cells #[.int .i64 s, .slice (some ⟨b2, 0, none⟩) l.length l.length, .slice (some ⟨d2, 0, none⟩) bl.length bl.length] 30)) := hV
  have bW : Below W.heap.size W V := by rw [hV]; exact ((Below.refl _ _).alloc (Nat.le_refl _) _).alloc (by simp) _
  have t2 : Three V (W.heap.size + 1) (.int .i64 s) (.slice (some ⟨b2, 0, none⟩) l.length l.length) (.slice (some ⟨d2, 0, none⟩) bl.length bl.length) := by
    rw [hV]
    have := Three.new (W.alloc (.cells #[.int .i64 s, .slice (some ⟨b1, 0, none⟩) l.length l.length, .slice (some ⟨d1, 0, none⟩) bl.length bl.length] 30)) (.int .i64 s) (.slice (some ⟨b2, 0, none⟩) l.length l.length) (.slice (some ⟨d2, 0, none⟩) bl.length bl.length) 30
    simpa using this
  have t1 : Three V W.heap.size (.int .i64 s) (.slice (some ⟨b1, 0, none⟩) l.length l.length) (.slice (some ⟨d1, 0, none⟩) bl.length bl.length) := by
    rw [hV]
    exact (Three.new W (.int .i64 s) (.slice (some ⟨b1, 0, none⟩) l.length l.length) (.slice (some ⟨d1, 0, none⟩) bl.length bl.length) 30).keep ((Below.refl _ _).alloc (Nat.le_refl _) _)
  have C := eqHeaderS_same V b1 0 b2 0 l.length l.length l hl (h1.keep bW) (h2.keep bW)
  have K : Hid (Below W.heap.size W V ∧ Three V W.heap.size (.int .i64 s) (.slice (some ⟨b1, 0, none⟩) l.length l.length) (.slice (some ⟨d1, 0, none⟩) bl.length bl.length) ∧ Three V (W.heap.size + 1) (.int .i64 s) (.slice (some ⟨b2, 0, none⟩) l.length l.length) (.slice (some ⟨d2, 0, none⟩) bl.length bl.length)) := ⟨bW, t1, t2⟩
  have HC : Hid (∀ X, Below W.heap.size W X → Calls Try.prog 17 #[.slice (some ⟨d1, 0, none⟩) bl.length bl.length, .slice (some ⟨d2, 0, none⟩) bl.length bl.length] X fun e w' => e = .returned (.bool true) ∧ Below X.heap.size X w') := fun X hb => eqByteS_same X _ _ _ _ bl hbl (k1.keep hb).in (k2.keep hb).in
  clear hV bW h1 h2 k1 k2 t1 t2
  generalize l.length = n at *
  generalize bl.length = bn at *
  go_enter Try.func8, Try.ntmps8
  go_wp2_with fail
  rw [← HV.out]
  refine C.mono ?_
  rintro e w1 ⟨rfl, hb1⟩
  have HB1 : Hid (Below W.heap.size W w1) := K.out.1.trans (hb1.mono K.out.1.size)
  have p2 := (K.out.2.1.keep hb1).c2
  have q2 := (K.out.2.2.keep hb1).c2
  have C2 := HC.out w1 HB1.out
  clear hb1 C K HV HC
  go_wp2_with fail
  refine C2.mono ?_
  rintro e w2 ⟨rfl, hb2⟩
  have HB2 : Hid (Below W.heap.size W w2) := HB1.out.trans (hb2.mono HB1.out.size)
  clear hb2 C2 HB1 p2 q2
  go_wp2_with fail
  go_ret
  exact ⟨rfl, HB2.out⟩
end Go.Proofs.Ytojcjpdgjohldab
