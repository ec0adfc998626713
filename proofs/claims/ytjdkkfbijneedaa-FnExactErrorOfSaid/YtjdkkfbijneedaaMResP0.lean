/-
  Responses as answers: compared, marked, held; without what reads them.
-/
import Derived.Test.YtjdkkfbijneedaaRespLaws
import Derived.Test.YtjdkkfbijneedaaHListVal
import Derived.Test.YtjdkkfbijneedaaBytesLaws
namespace Go.Proofs.Ytjdkkfbijneedaa
open Go.ChangeShapes Go.WideShapes Go.ChangeAt Go.RowKit
theorem HLV.block_lt {w : World} {v : Value} {l : List Hdr} (h : HLV w v l) : ∀ b, v.ownBlock = some b → b < w.heap.size := by
  rcases h with ⟨rfl, _⟩ | ⟨g, c, rfl, hg, _⟩
  · intro b hb; cases hb
  · intro b hb; simp only [Value.ownBlock, Option.some.injEq] at hb; omega
structure OutV (v : Value) (W W' : World) : Prop where
  size : W.heap.size ≤ W'.heap.size
  cell : ∀ b o, b < W.heap.size → v.ownBlock ≠ some b → W'.cell? ⟨b, o, none⟩ = W.cell? ⟨b, o, none⟩
  frozen : ∀ b o, b < W.heap.size → v.ownBlock ≠ some b → W'.frozen? ⟨b, o, none⟩ = W.frozen? ⟨b, o, none⟩
theorem Four.out {v : Value} {W W' : World} {B : Nat} {v0 v1 v2 v3 : Value} (h : Four W B v0 v1 v2 v3) (k : OutV v W W') (hne : v.ownBlock ≠ some B) : Four W' B v0 v1 v2 v3 :=
  ⟨by rw [k.cell B 0 h.lt hne]; exact h.c0, by rw [k.cell B 1 h.lt hne]; exact h.c1, by rw [k.cell B 2 h.lt hne]; exact h.c2, by rw [k.cell B 3 h.lt hne]; exact h.c3, fun o => by rw [k.frozen B o h.lt hne]; exact h.fr o, Nat.lt_of_lt_of_le h.lt k.size⟩
theorem Two.out {v : Value} {W W' : World} {B : Nat} {v0 v1 : Value} (h : Two W B v0 v1) (k : OutV v W W') (hne : v.ownBlock ≠ some B) : Two W' B v0 v1 :=
  ⟨by rw [k.cell B 0 h.lt hne]; exact h.c0, by rw [k.cell B 1 h.lt hne]; exact h.c1, fun o => by rw [k.frozen B o h.lt hne]; exact h.fr o, Nat.lt_of_lt_of_le h.lt k.size⟩
theorem BOwn.out {v u : Value} {W W' : World} {base : Nat} {l : List UInt8} (h : BOwn W base u l) (k : OutV v W W') (hne : ∀ b, u.ownBlock = some b → v.ownBlock ≠ some b) : BOwn W' base u l := by
  rcases h with h | ⟨g, c, rfl, hg, hm⟩
  · exact .inl h
  · have hn := hne g rfl
    exact .inr ⟨g, c, rfl, hg, fun i x hx => by rw [k.cell g _ hm.lt hn]; exact hm.at0 i x hx, fun o ho => by rw [k.frozen g o hm.lt hn]; exact hm.free o ho, Nat.lt_of_lt_of_le hm.lt k.size⟩
theorem QMine.out {v : Value} {W W' : World} {B : Nat} {l : List Hdr} (h : QMine W B l) (k : OutV v W W') (hne : v.ownBlock ≠ some B) : QMine W' B l :=
  ⟨fun i r hr => by rw [k.cell B _ h.lt hne, k.cell B _ h.lt hne]; exact h.at0 i r hr, fun o => by rw [k.frozen B o h.lt hne]; exact h.free o, Nat.lt_of_lt_of_le h.lt k.size⟩
theorem HAV.after {v : Value} {w V w' : World} (hV : Below w.heap.size w V) (h : HAV v V w') : HAV v w w' :=
  ⟨Nat.le_trans hV.size h.size, fun b o hb hn => by rw [h.cell b o (Nat.lt_of_lt_of_le hb hV.size) hn]; exact hV.cell (p := ⟨b, o, none⟩) hb, fun b o hb hn => by rw [h.frozen b o (Nat.lt_of_lt_of_le hb hV.size) hn]; exact hV.frozen (p := ⟨b, o, none⟩) hb⟩
theorem HAV.then {v : Value} {w w1 w2 : World} (h : HAV v w w1) (hb : Below w1.heap.size w1 w2) : HAV v w w2 :=
  ⟨Nat.le_trans h.size hb.size, fun b o h1 h2 => by rw [hb.cell (p := ⟨b, o, none⟩) (Nat.lt_of_lt_of_le h1 h.size)]; exact h.cell b o h1 h2, fun b o h1 h2 => by rw [hb.frozen (p := ⟨b, o, none⟩) (Nat.lt_of_lt_of_le h1 h.size)]; exact h.frozen b o h1 h2⟩
theorem Four.av {v : Value} {W W' : World} {B : Nat} {v0 v1 v2 v3 : Value} (h : Four W B v0 v1 v2 v3) (k : HAV v W W') (hne : v.ownBlock ≠ some B) : Four W' B v0 v1 v2 v3 :=
  h.out ⟨k.size, k.cell, k.frozen⟩ hne
theorem BOwn.av {v u : Value} {W W' : World} {base : Nat} {l : List UInt8} (h : BOwn W base u l) (k : HAV v W W') (hne : ∀ b, u.ownBlock = some b → v.ownBlock ≠ some b) : BOwn W' base u l :=
  h.out ⟨k.size, k.cell, k.frozen⟩ hne
set_option maxHeartbeats 2000000 in
theorem eqResponse_lv (W : World) (s : Int) (a b : Option Addr) (n k ca cb : Nat) (x y : Option Addr) (m q cx cy bx bY : Nat) (l : List Hdr) (t : List UInt8) (hl : l.length ≤ 1048576) (ht : t.length ≤ 1048576) (h1 : HLV W (.slice a n ca) l) (h2 : HLV W (.slice b k cb) l) (h3 : BOwn W bx (.slice x m cx) t) (h4 : BOwn W bY (.slice y q cy) t) :
    Calls Try.prog 12 #[.agg #[.int .i64 s, .slice a n ca, .slice x m cx], .agg #[.int .i64 s, .slice b k cb, .slice y q cy]] W fun e w' => e = .returned (.bool true) ∧ Below W.heap.size W w' := by
  obtain ⟨V, hV⟩ : ∃ V, V = (W.alloc (.cells #[.int .i64 s, .slice a n ca, .slice x m cx] 25)).alloc (.cells #[.int .i64 s, .slice b k cb, .slice y q cy] 25) := ⟨_, rfl⟩
  have HV : Hid (V = (W.alloc (.cells #[.int .i64 s, .slice a n ca, .slice x m cx] 25)).alloc (.cells #[.int .i64 s, .slice b k cb, .slice y q cy] 25)) := hV
  have bV : Below W.heap.size W V := by rw [hV]; exact ((Below.refl _ _).alloc (Nat.le_refl _) _).alloc (by simp) _
  have aV : Below (W.heap.size + 1) (W.alloc (.cells #[.int .i64 s, .slice a n ca, .slice x m cx] 25)) V := by rw [hV]; exact (Below.refl _ _).alloc (by simp) _
  have f1 : Three V W.heap.size (.int .i64 s) (.slice a n ca) (.slice x m cx) := (Three.new W (.int .i64 s) (.slice a n ca) (.slice x m cx) 25).keep (by rw [show (W.alloc (.cells #[.int .i64 s, .slice a n ca, .slice x m cx] 25)).heap.size = W.heap.size + 1 from by simp]; exact aV)
  have f2 : Three V (W.heap.size + 1) (.int .i64 s) (.slice b k cb) (.slice y q cy) := by
    have := Three.new (W.alloc (.cells #[.int .i64 s, .slice a n ca, .slice x m cx] 25)) (.int .i64 s) (.slice b k cb) (.slice y q cy) 25
    rw [← hV, show (W.alloc (.cells #[.int .i64 s, .slice a n ca, .slice x m cx] 25)).heap.size = W.heap.size + 1 from by simp] at this
    exact this
  have C := eqHeaderS_lv V _ _ l hl (h1.below bV) (h2.below bV)
  obtain ⟨x1, y1, e1, i1⟩ := h3.shape
  obtain ⟨x2, y2, e2, i2⟩ := h4.shape
  simp only [Value.slice.injEq] at e1 e2
  obtain ⟨rfl, rfl, rfl⟩ := e1
  obtain ⟨rfl, rfl, rfl⟩ := e2
  have HC2 : Hid (∀ X, Below W.heap.size W X → Calls Try.prog 17 #[.slice x t.length cx, .slice y t.length cy] X fun e w' => e = .returned (.bool true) ∧ Below X.heap.size X w') := fun X hb => eqByteS_same X _ _ _ _ t ht (i1.keep hb) (i2.keep hb)
  have HB : Hid (Below W.heap.size W V ∧ Three V W.heap.size (.int .i64 s) (.slice a n ca) (.slice x t.length cx) ∧ Three V (W.heap.size + 1) (.int .i64 s) (.slice b k cb) (.slice y t.length cy)) := ⟨bV, f1, f2⟩
  clear bV h1 h2 h3 h4 hV hl i1 i2 aV f1 f2 ht
  generalize t.length = m at *
  go_enter Try.func12, Try.ntmps12
  go_wp2_with fail
  rw [← HV.out]
  refine C.mono ?_
  rintro e w1 ⟨rfl, hb1⟩
  have KB : Hid (Below W.heap.size W w1) := HB.out.1.trans (hb1.mono HB.out.1.size)
  have C2 := HC2.out w1 KB.out
  obtain ⟨p0, p1, p2, _, _⟩ := HB.out.2.1.keep hb1
  obtain ⟨s0, s1, s2, _, _⟩ := HB.out.2.2.keep hb1
  clear hb1 C HB HV HC2
  go_wp2_with fail
  refine C2.mono ?_
  rintro e w2 ⟨rfl, hb2⟩
  have KC : Hid (Below W.heap.size W w2) := KB.out.trans (hb2.mono KB.out.size)
  clear hb2 C2 KB p0 p1 p2 s0 s1 s2
  go_wp2_with fail
  go_ret
  exact ⟨rfl, KC.out⟩
set_option maxHeartbeats 2000000 in
theorem eqResponseResult_lv (W : World) (c s : Int) (a b : Option Addr) (n k ca cb : Nat) (x y : Option Addr) (m q cx cy bx bY : Nat) (l : List Hdr) (t : List UInt8) (hl : l.length ≤ 1048576) (ht : t.length ≤ 1048576) (h1 : HLV W (.slice a n ca) l) (h2 : HLV W (.slice b k cb) l) (h3 : BOwn W bx (.slice x m cx) t) (h4 : BOwn W bY (.slice y q cy) t) :
    Calls Try.prog 6 #[.agg #[.int .i64 c, .int .i64 s, .slice a n ca, .slice x m cx], .agg #[.int .i64 c, .int .i64 s, .slice b k cb, .slice y q cy]] W fun e w' => e = .returned (.bool true) ∧ Below W.heap.size W w' := by
  obtain ⟨V, hV⟩ : ∃ V, V = (W.alloc (.cells #[.int .i64 c, .int .i64 s, .slice a n ca, .slice x m cx] 27)).alloc (.cells #[.int .i64 c, .int .i64 s, .slice b k cb, .slice y q cy] 27) := ⟨_, rfl⟩
  have HV : Hid (V = (W.alloc (.cells #[.int .i64 c, .int .i64 s, .slice a n ca, .slice x m cx] 27)).alloc (.cells #[.int .i64 c, .int .i64 s, .slice b k cb, .slice y q cy] 27)) := hV
  have bV : Below W.heap.size W V := by rw [hV]; exact ((Below.refl _ _).alloc (Nat.le_refl _) _).alloc (by simp) _
  have C := eqResponse_lv V s a b n k ca cb x y m q cx cy bx bY l t hl ht (h1.below bV) (h2.below bV) (h3.keep bV) (h4.keep bV)
  have HB : Hid (Below W.heap.size W V) := bV
  clear bV h1 h2 h3 h4 hV hl ht
  go_enter Try.func6, Try.ntmps6
  go_wp2_with fail
  rw [← HV.out]
  refine C.mono ?_
  rintro e w1 ⟨rfl, hb1⟩
  have KB : Hid (Below W.heap.size W w1) := HB.out.trans (hb1.mono HB.out.size)
  clear hb1 C HB HV
  go_wp2_with fail
  go_ret
  exact ⟨rfl, KB.out⟩
/-- All that was there, but for the memory of v and of u, is as it was. -/
structure HAV2 (v u : Value) (w w' : World) : Prop where
  size : w.heap.size ≤ w'.heap.size
  cell : ∀ b o, b < w.heap.size → v.ownBlock ≠ some b → u.ownBlock ≠ some b → w'.cell? ⟨b, o, none⟩ = w.cell? ⟨b, o, none⟩
  frozen : ∀ b o, b < w.heap.size → v.ownBlock ≠ some b → u.ownBlock ≠ some b → w'.frozen? ⟨b, o, none⟩ = w.frozen? ⟨b, o, none⟩
theorem HAV2.after {v u : Value} {w V w' : World} (hV : Below w.heap.size w V) (h : HAV2 v u V w') : HAV2 v u w w' :=
  ⟨Nat.le_trans hV.size h.size, fun b o hb hn h2 => by rw [h.cell b o (Nat.lt_of_lt_of_le hb hV.size) hn h2]; exact hV.cell (p := ⟨b, o, none⟩) hb, fun b o hb hn h2 => by rw [h.frozen b o (Nat.lt_of_lt_of_le hb hV.size) hn h2]; exact hV.frozen (p := ⟨b, o, none⟩) hb⟩
theorem HAV2.of {v u : Value} {w w1 w2 : World} (h : HAV v w w1) (k : HAV u w1 w2) : HAV2 v u w w2 :=
  ⟨Nat.le_trans h.size k.size, fun b o hb h1 h2 => by rw [k.cell b o (Nat.lt_of_lt_of_le hb h.size) h2]; exact h.cell b o hb h1, fun b o hb h1 h2 => by rw [k.frozen b o (Nat.lt_of_lt_of_le hb h.size) h2]; exact h.frozen b o hb h1⟩
theorem Four.av2 {v u : Value} {W W' : World} {B : Nat} {v0 v1 v2 v3 : Value} (h : Four W B v0 v1 v2 v3) (k : HAV2 v u W W') (hne : v.ownBlock ≠ some B) (h2 : u.ownBlock ≠ some B) : Four W' B v0 v1 v2 v3 :=
  ⟨by rw [k.cell B 0 h.lt hne h2]; exact h.c0, by rw [k.cell B 1 h.lt hne h2]; exact h.c1, by rw [k.cell B 2 h.lt hne h2]; exact h.c2, by rw [k.cell B 3 h.lt hne h2]; exact h.c3, fun o => by rw [k.frozen B o h.lt hne h2]; exact h.fr o, Nat.lt_of_lt_of_le h.lt k.size⟩
theorem BOwn.av2 {v u x : Value} {W W' : World} {base : Nat} {l : List UInt8} (h : BOwn W base x l) (k : HAV2 v u W W') (hne : ∀ b, x.ownBlock = some b → v.ownBlock ≠ some b) (h2 : ∀ b, x.ownBlock = some b → u.ownBlock ≠ some b) : BOwn W' base x l := by
  rcases h with h | ⟨g, c, rfl, hg, hm⟩
  · exact .inl h
  · have hn := hne g rfl
    have hn2 := h2 g rfl
    exact .inr ⟨g, c, rfl, hg, fun i x hx => by rw [k.cell g _ hm.lt hn hn2]; exact hm.at0 i x hx, fun o ho => by rw [k.frozen g o hm.lt hn hn2]; exact hm.free o ho, Nat.lt_of_lt_of_le hm.lt k.size⟩
theorem HLV.av2 {w w' : World} {v u v1 : Value} {l : List Hdr} (h : HLV w v1 l) (k : HAV2 v u w w') (hne : ∀ b, v1.ownBlock = some b → v.ownBlock ≠ some b) (h2 : ∀ b, v1.ownBlock = some b → u.ownBlock ≠ some b) : HLV w' v1 l := by
  rcases h with h | ⟨g, c, rfl, hg, hi, hf⟩
  · exact .inl h
  · have hn := hne g rfl
    have hn2 := h2 g rfl
    refine .inr ⟨g, c, rfl, Nat.lt_of_lt_of_le hg k.size, ?_, fun o => by rw [k.frozen g o hg hn hn2]; exact hf o⟩
    intro i r hr
    rw [k.cell g _ hg hn hn2, k.cell g _ hg hn hn2]
    exact hi i r hr
/-- Head lines and bytes never lie in one block, but where one of the two is empty. -/
theorem heads_bytes_apart {w : World} {v u : Value} {base : Nat} {l : List Hdr} {t : List UInt8} (h : HLV w v l) (k : BOwn w base u t) : l = [] ∨ t = [] ∨ ∀ b, u.ownBlock = some b → v.ownBlock ≠ some b := by
  rcases h with ⟨_, h⟩ | ⟨g, c, rfl, hg, hi, _⟩
  · exact .inl h
  · rcases k with ⟨_, k⟩ | ⟨g', c', rfl, _, hm⟩
    · exact .inr (.inl k)
    · by_cases e : g' = g
      · subst e
        cases l with
        | nil => exact .inl rfl
        | cons r l =>
          cases t with
          | nil => exact .inr (.inl rfl)
          | cons x t =>
            exfalso
            have h1 := (hi 0 r rfl).1
            have h2 := hm.at0 0 x rfl
            simp only [Nat.add_zero] at h1 h2
            rw [h1] at h2
            cases h2
      · refine .inr (.inr fun b hb hc => e ?_)
        simp only [Value.ownBlock, Option.some.injEq] at hb hc
        omega
set_option maxHeartbeats 2000000 in
theorem markByteS_none (w : World) (a : Option Addr) (c : Nat) (k : Int) :
    Calls Try.prog 19 #[.slice a 0 c, .int .i64 k] w fun e w' => e = .returned (.int .i64 k) ∧ w' = w := by
  go_enter Try.func19, Try.ntmps19
  go_wp2_with fail
  go_loop [1, 5] (fun x i => i = .int .i64 0 ∧ x = .int .i64 k) (fun _ _ => 0)
  case atStart => exact ⟨rfl, rfl⟩
  case round =>
    obtain ⟨rfl, rfl⟩ := hrel
    go_wp2_with fail
    go_ret
    exact ⟨rfl, rfl⟩
set_option maxHeartbeats 2000000 in
theorem heldByteS_none (w : World) (a : Option Addr) (c : Nat) (k : Int) :
    Calls Try.prog 21 #[.slice a 0 c, .int .i64 k] w fun e w' => e = .returned (.int .i64 k) ∧ w' = w := by
  go_enter Try.func21, Try.ntmps21
  go_wp2_with fail
  go_loop [1, 5] (fun x i => i = .int .i64 0 ∧ x = .int .i64 k) (fun _ _ => 0)
  case atStart => exact ⟨rfl, rfl⟩
  case round =>
    obtain ⟨rfl, rfl⟩ := hrel
    go_wp2_with fail
    go_ret
    exact ⟨rfl, rfl⟩
/-- Head lines and bytes marked: what holds behind it. -/
structure MkP (base : Nat) (v : Value) (n : Nat) (u : Value) (m : Nat) (w w' : World) : Prop where
  lv : HLV w' v (mkHL 1 n)
  mb : MarkB w' u (1 + 2 * n) m
  av : HAV2 v u w w'
  low : Below base w w'
theorem MkP.after {base n m : Nat} {v u : Value} {w V w' : World} (hV : Below w.heap.size w V) (hb : base ≤ w.heap.size) (h : MkP base v n u m V w') : MkP base v n u m w w' :=
  ⟨h.lv, h.mb, h.av.after hV, (hV.mono hb).trans h.low⟩
/-- The bytes marked behind the head lines. -/
theorem markB_behind {w W : World} {a b : Option Addr} {n ca m cb base bb : Nat} {l : List Hdr} {t : List UInt8} (hn : n = l.length) (hl : l.length ≤ 1000) (ht : t.length ≤ 1048576) (h0 : HLV w (.slice a n ca) l) (hk : BOwn w bb (.slice b m cb) t) (hbb : base ≤ bb)
    (hw : HLV W (.slice a n ca) (mkHL 1 n)) (hav : HAV (.slice a n ca) w W) (hlow : Below base w W) (hnil : n = 0 → Below w.heap.size w W) :
    Calls Try.prog 19 #[.slice b m cb, .int .i64 ((1 + 2 * n : Nat) : Int)] W fun e w' => e = .returned (.int .i64 ((1 + 2 * n + m : Nat) : Int)) ∧ MkP base (.slice a n ca) n (.slice b m cb) m w w' := by
  by_cases hm0 : m = 0
  · subst hm0
    refine (markByteS_none W b cb _).mono ?_
    rintro e w' ⟨rfl, rfl⟩
    exact ⟨rfl, hw, .inl rfl, HAV2.of hav (HAV.below (Below.refl _ _)), hlow⟩
  · have hW : BOwn W bb (.slice b m cb) t := by
      rcases heads_bytes_apart h0 hk with e | e | e
      · exact hk.keep (hnil (by rw [hn, e]; rfl))
      · obtain ⟨x, y, e1, _⟩ := hk.shape
        simp only [Value.slice.injEq] at e1
        exact absurd (by rw [e1.2.1, e]; rfl) hm0
      · exact hk.av hav e
    have hap := heads_bytes_apart hw hW
    rcases hW with ⟨e, _⟩ | ⟨g, c', e, hg, hmm⟩
    · simp only [Value.slice.injEq] at e
      exact absurd e.2.1 hm0
    · simp only [Value.slice.injEq] at e
      obtain ⟨rfl, rfl, rfl⟩ := e
      have C := markByteS_row W g t.length cb (1 + 2 * n) base ht (by omega) (by omega) hmm.lt (fun j hj => ⟨⟨_, by have := hmm.at0 j t[j] (List.getElem?_eq_getElem hj); rwa [Nat.zero_add] at this⟩, hmm.free j hj⟩)
      refine C.mono ?_
      rintro e w' ⟨rfl, h1, h2, h3⟩
      have hv2 : HAV (.slice (some ⟨g, 0, none⟩) t.length cb) W w' := ⟨by rw [h2.size]; exact Nat.le_refl _, fun b o hb hn => h2.cell b o hb hn, fun b o _ _ => h2.frozen b o⟩
      refine ⟨rfl, ?_, h1, HAV2.of hav hv2, hlow.trans h3⟩
      rcases hap with e | e | e
      · rcases hw with hw | ⟨g1, c1, e1, hg1, hi1, hf1⟩
        · exact .inl hw
        · refine .inr ⟨g1, c1, e1, by rw [h2.size]; exact hg1, ?_, fun o => by rw [h2.frozen]; exact hf1 o⟩
          rw [e]
          intro i r hr
          cases hr
      · exact absurd (by rw [e]; rfl) hm0
      · exact hw.av hv2 fun b hb hc => e b hc hb
theorem Three.av {v : Value} {W W' : World} {B : Nat} {v0 v1 v2 : Value} (h : Three W B v0 v1 v2) (k : HAV v W W') (hne : v.ownBlock ≠ some B) : Three W' B v0 v1 v2 :=
  ⟨by rw [k.cell B 0 h.lt hne]; exact h.c0, by rw [k.cell B 1 h.lt hne]; exact h.c1, by rw [k.cell B 2 h.lt hne]; exact h.c2, fun o => by rw [k.frozen B o h.lt hne]; exact h.fr o, Nat.lt_of_lt_of_le h.lt k.size⟩
theorem markHeaderS_lv0 (w : World) (a : Option Addr) (n ca : Nat) (l : List Hdr) (hn : n = l.length) (hl : l.length ≤ 1000) (h : HLV w (.slice a n ca) l) (base : Nat) (hb : ∀ b, (Value.slice a n ca).ownBlock = some b → base ≤ b) (hbs : base ≤ w.heap.size) :
    Calls Try.prog 18 #[.slice a n ca, .int .i64 1] w fun e w' => e = .returned (.int .i64 ((1 + 2 * n : Nat) : Int)) ∧ (HLV w' (.slice a n ca) (mkHL 1 n) ∧ HAV (.slice a n ca) w w' ∧ Below base w w' ∧ (n = 0 → Below w.heap.size w w')) := by
  by_cases h0 : n = 0
  · subst h0
    have : l = [] := List.eq_nil_of_length_eq_zero hn.symm
    subst this
    exact (markHeaderS_nil w a ca 1).mono fun e w' ⟨h1, h2⟩ => ⟨h1, h.below h2, .below h2, h2.mono hbs, fun _ => h2⟩
  · have := markHeaderS_lv w (.slice a n ca) l (by omega) h base hb hbs
    rw [← hn] at this
    exact this.mono fun e w' ⟨h1, h2, h3, h4⟩ => ⟨h1, h2, h3, h4, fun e => absurd e h0⟩
set_option maxRecDepth 100000 in
set_option maxHeartbeats 4000000 in
theorem markResponse_lv (w : World) (s : Int) (a : Option Addr) (n ca : Nat) (b : Option Addr) (m cb bb : Nat) (l : List Hdr) (t : List UInt8) (hn : n = l.length) (hl : l.length ≤ 1000) (ht : t.length ≤ 1048576) (hv : HLV w (.slice a n ca) l) (hk : BOwn w bb (.slice b m cb) t) (base : Nat) (hb : ∀ b, (Value.slice a n ca).ownBlock = some b → base ≤ b) (hbb : base ≤ bb) (hbs : base ≤ w.heap.size) (q : Int) (hq : ((1 + 2 * n + m : Nat) : Int) = q) :
    Calls Try.prog 13 #[.agg #[.int .i64 s, .slice a n ca, .slice b m cb], .int .i64 1] w fun e w' => e = .returned (.int .i64 q) ∧ MkP base (.slice a n ca) n (.slice b m cb) m w w' := by
  obtain ⟨V, hV⟩ : ∃ V, V = w.alloc (.cells #[.int .i64 s, .slice a n ca, .slice b m cb] 25) := ⟨_, rfl⟩
  have HV : Hid (V = w.alloc (.cells #[.int .i64 s, .slice a n ca, .slice b m cb] 25)) := hV
  have bV : Below w.heap.size w V := by rw [hV]; exact (Below.refl _ _).alloc (Nat.le_refl _) _
  have fV : Three V w.heap.size (.int .i64 s) (.slice a n ca) (.slice b m cb) := by rw [hV]; exact Three.new _ _ _ _ _
  have hne : (Value.slice a n ca).ownBlock ≠ some w.heap.size := fun e => Nat.lt_irrefl _ (hv.block_lt _ e)
  obtain ⟨r, hr⟩ : ∃ r : Int, ((1 + 2 * n : Nat) : Int) = r := ⟨_, rfl⟩
  have C := markHeaderS_lv0 V a n ca l hn hl (hv.below bV) base hb (Nat.le_trans hbs bV.size)
  have HM : Hid (∀ X, HLV X (.slice a n ca) (mkHL 1 n) → HAV (.slice a n ca) V X → Below base V X → (n = 0 → Below V.heap.size V X) → Calls Try.prog 19 #[.slice b m cb, .int .i64 r] X fun e w' => e = .returned (.int .i64 q) ∧ MkP base (.slice a n ca) n (.slice b m cb) m w w') := by
    intro X h1 h2 h3 h4
    have := markB_behind hn hl ht (hv.below bV) (hk.keep bV) hbb h1 h2 h3 h4
    rw [hr, hq] at this
    exact this.mono fun e w1 ⟨he, h⟩ => ⟨he, MkP.after bV hbs h⟩
  rw [hr] at C
  have HT : Hid (Three V w.heap.size (.int .i64 s) (.slice a n ca) (.slice b m cb) ∧ (Value.slice a n ca).ownBlock ≠ some w.heap.size) := ⟨fV, hne⟩
  clear bV hV hv hk hn hl ht hb hbb hbs hq fV hne hr
  go_enter Try.func13, Try.ntmps13
  go_wp2_with fail
  rw [← HV.out]
  refine C.mono ?_
  rintro e w1 ⟨rfl, h1, h2, h3, h4⟩
  have C2 := HM.out w1 h1 h2 h3 h4
  obtain ⟨p0, p1, p2, _, _⟩ := HT.out.1.av h2 HT.out.2
  clear h1 h2 h3 h4 C HM HT HV
  go_wp2_with fail
  refine C2.mono ?_
  rintro e w2 ⟨rfl, hk⟩
  have K : Hid (MkP base (.slice a n ca) n (.slice b m cb) m w w2) := hk
  clear hk C2 p0 p1 p2
  go_wp2_with fail
  go_ret
  exact ⟨rfl, K.out⟩
set_option maxRecDepth 100000 in
set_option maxHeartbeats 2000000 in
theorem markResponseResult_lv (w : World) (c s : Int) (a : Option Addr) (n ca : Nat) (b : Option Addr) (m cb bb : Nat) (l : List Hdr) (t : List UInt8) (hn : n = l.length) (hl : l.length ≤ 1000) (ht : t.length ≤ 1048576) (hv : HLV w (.slice a n ca) l) (hk : BOwn w bb (.slice b m cb) t) (base : Nat) (hb : ∀ b, (Value.slice a n ca).ownBlock = some b → base ≤ b) (hbb : base ≤ bb) (hbs : base ≤ w.heap.size) (q : Int) (hq : ((1 + 2 * n + m : Nat) : Int) = q) :
    Calls Try.prog 7 #[.agg #[.int .i64 c, .int .i64 s, .slice a n ca, .slice b m cb], .int .i64 1] w fun e w' => e = .returned (.int .i64 q) ∧ MkP base (.slice a n ca) n (.slice b m cb) m w w' := by
  obtain ⟨V, hV⟩ : ∃ V, V = w.alloc (.cells #[.int .i64 c, .int .i64 s, .slice a n ca, .slice b m cb] 27) := ⟨_, rfl⟩
  have HV : Hid (V = w.alloc (.cells #[.int .i64 c, .int .i64 s, .slice a n ca, .slice b m cb] 27)) := hV
  have bV : Below w.heap.size w V := by rw [hV]; exact (Below.refl _ _).alloc (Nat.le_refl _) _
  have C := markResponse_lv V s a n ca b m cb bb l t hn hl ht (hv.below bV) (hk.keep bV) base hb hbb (Nat.le_trans hbs bV.size) q hq
  have HM : Hid (∀ X, MkP base (.slice a n ca) n (.slice b m cb) m V X → MkP base (.slice a n ca) n (.slice b m cb) m w X) := fun X h => MkP.after bV hbs h
  clear bV hV hv hk hn hl ht hb hbb hbs hq
  go_enter Try.func7, Try.ntmps7
  go_wp2_with fail
  rw [← HV.out]
  refine C.mono ?_
  rintro e w1 ⟨rfl, hk⟩
  have K : Hid (MkP base (.slice a n ca) n (.slice b m cb) m w w1) := HM.out w1 hk
  clear hk C HV HM
  go_wp2_with fail
  go_ret
  exact ⟨rfl, K.out⟩
theorem heldB_behind {w : World} {b : Option Addr} {m cb k : Nat} (hm : m ≤ 1048576) (hk : k ≤ 10000000) (h : MarkB w (.slice b m cb) k m) :
    Calls Try.prog 21 #[.slice b m cb, .int .i64 (k : Int)] w fun e w' => e = .returned (.int .i64 ((k + m : Nat) : Int)) ∧ w' = w := by
  by_cases h0 : m = 0
  · subst h0
    exact heldByteS_none w b cb _
  · rcases h with h | ⟨g, c, e, hg, hc⟩
    · exact absurd h h0
    · simp only [Value.slice.injEq] at e
      obtain ⟨rfl, _, rfl⟩ := e
      exact heldByteS_row w g m cb k hm (by omega) hc
set_option maxHeartbeats 2000000 in
theorem heldResponse_lv (w : World) (s : Int) (a : Option Addr) (n ca : Nat) (b : Option Addr) (m cb : Nat) (hl : n ≤ 1000) (hm : m ≤ 1048576) (hv : HLV w (.slice a n ca) (mkHL 1 n)) (hk : MarkB w (.slice b m cb) (1 + 2 * n) m) (q : Int) (hq : ((1 + 2 * n + m : Nat) : Int) = q) :
    Calls Try.prog 14 #[.agg #[.int .i64 s, .slice a n ca, .slice b m cb], .int .i64 1] w fun e w' => e = .returned (.int .i64 q) ∧ Below w.heap.size w w' := by
  obtain ⟨V, hV⟩ : ∃ V, V = w.alloc (.cells #[.int .i64 s, .slice a n ca, .slice b m cb] 25) := ⟨_, rfl⟩
  have HV : Hid (V = w.alloc (.cells #[.int .i64 s, .slice a n ca, .slice b m cb] 25)) := hV
  have bV : Below w.heap.size w V := by rw [hV]; exact (Below.refl _ _).alloc (Nat.le_refl _) _
  have fV : Three V w.heap.size (.int .i64 s) (.slice a n ca) (.slice b m cb) := by rw [hV]; exact Three.new _ _ _ _ _
  have HE := heldHeaderS_lv V (.slice a n ca) n (by omega) (hv.below bV)
  obtain ⟨r, hr⟩ : ∃ r : Int, ((1 + 2 * n : Nat) : Int) = r := ⟨_, rfl⟩
  have HM : Hid (∀ X, Below V.heap.size V X → Calls Try.prog 21 #[.slice b m cb, .int .i64 r] X fun e w' => e = .returned (.int .i64 q) ∧ w' = X) := by
    intro X hX
    have := heldB_behind hm (by omega) ((hk.keep bV).keep hX)
    rwa [hr, hq] at this
  have g : ¬ r < 0 := by omega
  have g2 : ¬ q < 0 := by omega
  rw [hr] at HE
  have HT : Hid (Three V w.heap.size (.int .i64 s) (.slice a n ca) (.slice b m cb) ∧ Below w.heap.size w V) := ⟨fV, bV⟩
  clear hv hk hq hr bV fV hl hm hV
  go_enter Try.func14, Try.ntmps14
  go_wp2_with fail
  rw [← HV.out]
  refine HE.mono ?_
  rintro e w1 ⟨rfl, hb⟩
  have C2 := HM.out w1 hb
  obtain ⟨p0, p1, p2, _, _⟩ := HT.out.1.keep hb
  have KB : Hid (Below w.heap.size w w1) := HT.out.2.trans (hb.mono HT.out.2.size)
  clear hb HE HM HT HV
  go_wp2_with fail
  refine C2.mono ?_
  rintro e w2 ⟨rfl, hw⟩
  obtain rfl := hw.symm
  clear hw C2 p0 p1 p2
  go_wp2_with fail
  go_ret
  exact ⟨rfl, KB.out⟩
set_option maxHeartbeats 2000000 in
theorem heldResponseResult_lv (w : World) (c s : Int) (a : Option Addr) (n ca : Nat) (b : Option Addr) (m cb : Nat) (hl : n ≤ 1000) (hm : m ≤ 1048576) (hv : HLV w (.slice a n ca) (mkHL 1 n)) (hk : MarkB w (.slice b m cb) (1 + 2 * n) m) (q : Int) (hq : ((1 + 2 * n + m : Nat) : Int) = q) :
    Calls Try.prog 8 #[.agg #[.int .i64 c, .int .i64 s, .slice a n ca, .slice b m cb], .int .i64 1] w fun e w' => e = .returned (.int .i64 q) ∧ Below w.heap.size w w' := by
  have bV : Below w.heap.size w (w.alloc (.cells #[.int .i64 c, .int .i64 s, .slice a n ca, .slice b m cb] 27)) := (Below.refl _ _).alloc (Nat.le_refl _) _
  have HE := heldResponse_lv (w.alloc (.cells #[.int .i64 c, .int .i64 s, .slice a n ca, .slice b m cb] 27)) s a n ca b m cb hl hm (hv.below bV) (hk.keep bV) q hq
  have g : ¬ q < 0 := by omega
  clear hv hk hq bV hl hm
  go_enter Try.func8, Try.ntmps8
  go_wp2_with fail
  refine HE.mono ?_
  rintro e w1 ⟨rfl, hb⟩
  have KB : Hid (Below w.heap.size w w1) := ((Below.refl _ _).alloc (Nat.le_refl _) _).trans (hb.mono (by simp))
  clear hb HE
  go_wp2_with fail
  go_ret
  exact ⟨rfl, KB.out⟩
end Go.Proofs.Ytjdkkfbijneedaa
