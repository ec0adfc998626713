/-
  Responses that came in: measured, taken over, compared.
-/
import Derived.Test.YtjdkkfbijneedaaMsgLaws
import Derived.Test.YtjdkkfbijneedaaByteRows
namespace Go.Proofs.Ytjdkkfbijneedaa
open Go.ChangeShapes Go.WideShapes Go.ChangeAt Go.RowKit
structure Three (W : World) (B : Nat) (v0 v1 v2 : Value) : Prop where
  c0 : W.cell? ⟨B, 0, none⟩ = some v0
  c1 : W.cell? ⟨B, 1, none⟩ = some v1
  c2 : W.cell? ⟨B, 2, none⟩ = some v2
  fr : ∀ o, W.frozen? ⟨B, o, none⟩ = false
  lt : B < W.heap.size
theorem Three.keep {W W' : World} {B : Nat} {v0 v1 v2 : Value} (h : Three W B v0 v1 v2) (hb : Below W.heap.size W W') : Three W' B v0 v1 v2 :=
  ⟨by rw [hb.cell (p := ⟨B, 0, none⟩) h.lt]; exact h.c0, by rw [hb.cell (p := ⟨B, 1, none⟩) h.lt]; exact h.c1, by rw [hb.cell (p := ⟨B, 2, none⟩) h.lt]; exact h.c2,
    fun o => by rw [hb.frozen (p := ⟨B, o, none⟩) h.lt]; exact h.fr o, Nat.lt_of_lt_of_le h.lt hb.size⟩
theorem Three.new (W : World) (v0 v1 v2 : Value) (t : TypeId) : Three (W.alloc (.cells #[v0, v1, v2] t)) W.heap.size v0 v1 v2 :=
  ⟨by rw [World.cell?_alloc_mark]; rfl, by rw [World.cell?_alloc_mark]; rfl, by rw [World.cell?_alloc_mark]; rfl, fun o => by have e := heap_alloc_new W (.cells #[v0, v1, v2] t); unfold World.frozen?; rw [e]; simp, by simp⟩
def szP (left : Int) (l : List Hdr) (n : Nat) : Int := if szHL left l < 0 then -1 else if szHL left l - (n : Int) < 0 then -1 else szHL left l - (n : Int)
theorem szP_room {left : Int} {l : List Hdr} {n : Nat} (hl : left ≤ 1048576) (hz : ¬ szP left l n < 0) : l.length ≤ 1048576 ∧ n ≤ 1048576 ∧ szP left l n ≤ left := by
  unfold szP at hz ⊢
  by_cases c1 : szHL left l < 0
  · rw [if_pos c1] at hz; omega
  rw [if_neg c1] at hz ⊢
  by_cases c2 : szHL left l - (n : Int) < 0
  · rw [if_pos c2] at hz; omega
  rw [if_neg c2] at hz ⊢
  have a := (szHL_room hl c1).1
  have b := szHL_le c1
  exact ⟨by omega, by omega, by omega⟩
/-- A response of the law's own. -/
def RespRes (k : Nat) (s : Int) (l : List Hdr) (bl : List UInt8) (e : Ending) (w' : World) : Prop :=
  ∃ B, e = .returned (.agg #[.int .i64 s, .slice (some ⟨k + 3, 0, none⟩) l.length l.length, .slice (some ⟨B, 0, none⟩) bl.length bl.length]) ∧ QMine w' (k + 3) l ∧ BMine w' B bl ∧ k + 3 < B
set_option maxHeartbeats 2000000 in
theorem eqResponse_same (W : World) (s : Int) (b1 b2 : Nat) (l : List Hdr) (d1 d2 : Nat) (bl : List UInt8) (hl : l.length ≤ 1048576) (hbl : bl.length ≤ 1048576) (h1 : HeadsAt W b1 0 l) (h2 : HeadsAt W b2 0 l) (k1 : BMine W d1 bl) (k2 : BMine W d2 bl) :
    Calls Try.prog 12 #[.agg #[.int .i64 s, .slice (some ⟨b1, 0, none⟩) l.length l.length, .slice (some ⟨d1, 0, none⟩) bl.length bl.length], .agg #[.int .i64 s, .slice (some ⟨b2, 0, none⟩) l.length l.length, .slice (some ⟨d2, 0, none⟩) bl.length bl.length]] W fun e w' => e = .returned (.bool true) ∧ Below W.heap.size W w' := by
  obtain ⟨V, hV⟩ : ∃ V, V = (W.alloc (.cells #[.int .i64 s, .slice (some ⟨b1, 0, none⟩) l.length l.length, .slice (some ⟨d1, 0, none⟩) bl.length bl.length] 25)).alloc (.cells #[.int .i64 s, .slice (some ⟨b2, 0, none⟩) l.length l.length, .slice (some ⟨d2, 0, none⟩) bl.length bl.length] 25) := ⟨_, rfl⟩
  have HV : Hid (V = (W.alloc (.cells #[.int .i64 s, .slice (some ⟨b1, 0, none⟩) l.length l.length, .slice (some ⟨d1, 0, none⟩) bl.length bl.length] 25)).alloc (.cells #[.int .i64 s, .slice (some ⟨b2, 0, none⟩) l.length l.length, .slice (some ⟨d2, 0, none⟩) bl.length bl.length] 25)) := hV
  have bW : Below W.heap.size W V := by rw [hV]; exact ((Below.refl _ _).alloc (Nat.le_refl _) _).alloc (by simp) _
  have t2 : Three V (W.heap.size + 1) (.int .i64 s) (.slice (some ⟨b2, 0, none⟩) l.length l.length) (.slice (some ⟨d2, 0, none⟩) bl.length bl.length) := by
    rw [hV]
    have := Three.new (W.alloc (.cells #[.int .i64 s, .slice (some ⟨b1, 0, none⟩) l.length l.length, .slice (some ⟨d1, 0, none⟩) bl.length bl.length] 25)) (.int .i64 s) (.slice (some ⟨b2, 0, none⟩) l.length l.length) (.slice (some ⟨d2, 0, none⟩) bl.length bl.length) 25
    simpa using this
  have t1 : Three V W.heap.size (.int .i64 s) (.slice (some ⟨b1, 0, none⟩) l.length l.length) (.slice (some ⟨d1, 0, none⟩) bl.length bl.length) := by
    rw [hV]
    exact (Three.new W (.int .i64 s) (.slice (some ⟨b1, 0, none⟩) l.length l.length) (.slice (some ⟨d1, 0, none⟩) bl.length bl.length) 25).keep ((Below.refl _ _).alloc (Nat.le_refl _) _)
  have C := eqHeaderS_same V b1 0 b2 0 l.length l.length l hl (h1.keep bW) (h2.keep bW)
  have K : Hid (Below W.heap.size W V ∧ Three V W.heap.size (.int .i64 s) (.slice (some ⟨b1, 0, none⟩) l.length l.length) (.slice (some ⟨d1, 0, none⟩) bl.length bl.length) ∧ Three V (W.heap.size + 1) (.int .i64 s) (.slice (some ⟨b2, 0, none⟩) l.length l.length) (.slice (some ⟨d2, 0, none⟩) bl.length bl.length)) := ⟨bW, t1, t2⟩
  have HC : Hid (∀ X, Below W.heap.size W X → Calls Try.prog 17 #[.slice (some ⟨d1, 0, none⟩) bl.length bl.length, .slice (some ⟨d2, 0, none⟩) bl.length bl.length] X fun e w' => e = .returned (.bool true) ∧ Below X.heap.size X w') := fun X hb => eqByteS_same X _ _ _ _ bl hbl (k1.keep hb).in (k2.keep hb).in
  clear hV bW h1 h2 k1 k2 t1 t2
  generalize l.length = n at *
  generalize bl.length = bn at *
  go_enter Try.func12, Try.ntmps12
  go_wp2_with fail
  rw [← HV.out]
  refine C.mono ?_
  rintro e w1 ⟨rfl, hb1⟩
  have HB1 : Hid (Below W.heap.size W w1) := K.out.1.trans (hb1.mono K.out.1.size)
  have p2 := (K.out.2.1.keep hb1).c2
  have q2 := (K.out.2.2.keep hb1).c2
  have C2 := HC.out w1 HB1.out
  clear hb1 C K HV HC
  go_wp2_with fail
  refine C2.mono ?_
  rintro e w2 ⟨rfl, hb2⟩
  have HB2 : Hid (Below W.heap.size W w2) := HB1.out.trans (hb2.mono HB1.out.size)
  clear hb2 C2 HB1 p2 q2
  go_wp2_with fail
  go_ret
  exact ⟨rfl, HB2.out⟩
end Go.Proofs.Ytjdkkfbijneedaa
