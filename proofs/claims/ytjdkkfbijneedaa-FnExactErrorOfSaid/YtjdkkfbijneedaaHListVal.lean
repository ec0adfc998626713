/-
  Head lines as a value: compared, marked, held.
-/
import Derived.Test.YtjdkkfbijneedaaHMarkItems
import Derived.Test.YtjdkkfbijneedaaOwnHeads
import Derived.Test.YtjdkkfbijneedaaHeadsSame
namespace Go.Proofs.Ytjdkkfbijneedaa
open Go.ChangeShapes Go.WideShapes Go.ChangeAt Go.RowKit Go.Sort
def HLV (w : World) (v : Value) (l : List Hdr) : Prop :=
  (v = .slice none 0 0 ∧ l = []) ∨ ∃ g cap, v = .slice (some ⟨g, 0, none⟩) l.length cap ∧ g < w.heap.size ∧ HeadsAt w g 0 l ∧ ∀ o, w.frozen? ⟨g, o, none⟩ = false
theorem OwnH.lv {w : World} {base : Nat} {v : Value} {l : List Hdr} (h : OwnH w base v l) : HLV w v l ∧ ∀ b, v.ownBlock = some b → base ≤ b := by
  have h0 := h
  obtain ⟨_, h1 | ⟨g, c, cur, rfl, hg, hh, _⟩⟩ := h
  · have e : l = [] := List.eq_nil_of_length_eq_zero h1.2
    exact ⟨.inl ⟨h1.1, e⟩, fun b hb => by rw [h1.1] at hb; cases hb⟩
  · refine ⟨.inr ⟨g, c, rfl, (Array.getElem?_eq_some_iff.1 hh).1, ?_, fun o => ?_⟩, fun b hb => ?_⟩
    · obtain ⟨a, c', e, hi⟩ := h0.at
      rcases hi with rfl | ⟨b, off, rfl, hat⟩
      · intro i r hr; simp at hr
      · simp only [Value.slice.injEq, Option.some.injEq] at e
        obtain ⟨e, _⟩ := e
        have e1 := congrArg Addr.block e
        have e2 := congrArg Addr.off e
        simp only at e1 e2
        rw [e1, e2]
        exact hat
    · simp [World.frozen?, hh]
    · simp only [Value.ownBlock, Option.some.injEq] at hb; omega
theorem HLV.below {w w' : World} {v : Value} {l : List Hdr} (h : HLV w v l) (hb : Below w.heap.size w w') : HLV w' v l := by
  rcases h with h | ⟨g, c, e, hg, hi, hf⟩
  · exact .inl h
  · exact .inr ⟨g, c, e, Nat.lt_of_lt_of_le hg hb.size, hi.keep hb, fun o => by rw [hb.frozen (p := ⟨g, o, none⟩) hg, hf]⟩
/-- All that was there, but for the memory of v, is as it was. -/
structure HAV (v : Value) (w w' : World) : Prop where
  size : w.heap.size ≤ w'.heap.size
  cell : ∀ b o, b < w.heap.size → v.ownBlock ≠ some b → w'.cell? ⟨b, o, none⟩ = w.cell? ⟨b, o, none⟩
  frozen : ∀ b o, b < w.heap.size → v.ownBlock ≠ some b → w'.frozen? ⟨b, o, none⟩ = w.frozen? ⟨b, o, none⟩
theorem HAV.below {v : Value} {w w' : World} (h : Below w.heap.size w w') : HAV v w w' :=
  ⟨h.size, fun b o hb _ => h.cell (p := ⟨b, o, none⟩) hb, fun b o hb _ => h.frozen (p := ⟨b, o, none⟩) hb⟩
theorem HLV.av {w w' : World} {v v1 : Value} {l : List Hdr} (h : HLV w v1 l) (k : HAV v w w') (hne : ∀ b, v1.ownBlock = some b → v.ownBlock ≠ some b) : HLV w' v1 l := by
  rcases h with h | ⟨g, c, rfl, hg, hi, hf⟩
  · exact .inl h
  · have hn := hne g rfl
    exact .inr ⟨g, c, rfl, Nat.lt_of_lt_of_le hg k.size, fun i r hr => by rw [k.cell g _ hg hn, k.cell g _ hg hn]; exact hi i r hr, fun o => by rw [k.frozen g o hg hn, hf]⟩
set_option maxHeartbeats 1000000 in
theorem eqHeaderS_nil (w : World) (a b : Option Addr) (c d : Nat) :
    Calls Try.prog 16 #[.slice a 0 c, .slice b 0 d] w fun e w' => e = .returned (.bool true) ∧ Below w.heap.size w w' := by
  go_enter Try.func16, Try.ntmps16
  go_wp2_with fail
  go_loop [5] (fun i => i = .int .i64 0) (fun _ => 0)
  case atStart => rfl
  case round =>
    obtain rfl := hrel
    go_wp2_with fail
    go_ret
    exact ⟨rfl, Below.refl _ _⟩
theorem eqHeaderS_lv (w : World) (v1 v2 : Value) (l : List Hdr) (hl : l.length ≤ 1048576) (h1 : HLV w v1 l) (h2 : HLV w v2 l) :
    Calls Try.prog 16 #[v1, v2] w fun e w' => e = .returned (.bool true) ∧ Below w.heap.size w w' := by
  rcases h1 with ⟨rfl, rfl⟩ | ⟨g, c, rfl, _, hi, _⟩
  · rcases h2 with ⟨rfl, _⟩ | ⟨g, c, rfl, _, _, _⟩
    · exact eqHeaderS_nil w _ _ _ _
    · exact eqHeaderS_nil w _ _ _ _
  · rcases h2 with ⟨rfl, rfl⟩ | ⟨g', c', rfl, _, hi', _⟩
    · exact eqHeaderS_nil w _ _ _ _
    · exact eqHeaderS_same w g 0 g' 0 c c' l hl hi hi'
set_option maxHeartbeats 1000000 in
theorem markHeaderS_nil (w : World) (a : Option Addr) (c k : Nat) :
    Calls Try.prog 18 #[.slice a 0 c, .int .i64 (k : Int)] w fun e w' => e = .returned (.int .i64 (k : Int)) ∧ Below w.heap.size w w' := by
  go_enter Try.func18, Try.ntmps18
  go_wp2_with fail
  go_loop [1, 5] (fun x i => x = .int .i64 (k : Int) ∧ i = .int .i64 0) (fun _ _ => 0)
  case atStart => exact ⟨rfl, rfl⟩
  case round =>
    obtain ⟨rfl, rfl⟩ := hrel
    go_wp2_with fail
    go_ret
    exact ⟨rfl, Below.refl _ _⟩
set_option maxHeartbeats 1000000 in
theorem heldHeaderS_nil (w : World) (a : Option Addr) (c k : Nat) :
    Calls Try.prog 20 #[.slice a 0 c, .int .i64 (k : Int)] w fun e w' => e = .returned (.int .i64 (k : Int)) ∧ Below w.heap.size w w' := by
  go_enter Try.func20, Try.ntmps20
  go_wp2_with fail
  go_loop [1, 5] (fun x i => x = .int .i64 (k : Int) ∧ i = .int .i64 0) (fun _ _ => 0)
  case atStart => exact ⟨rfl, rfl⟩
  case round =>
    obtain ⟨rfl, rfl⟩ := hrel
    go_wp2_with fail
    go_ret
    exact ⟨rfl, Below.refl _ _⟩
theorem markHeaderS_lv (w : World) (v : Value) (l : List Hdr) (hl : l.length ≤ 1048576) (h : HLV w v l) (base : Nat) (hb : ∀ b, v.ownBlock = some b → base ≤ b) (hbs : base ≤ w.heap.size) :
    Calls Try.prog 18 #[v, .int .i64 1] w fun e w' => e = .returned (.int .i64 ((1 + 2 * l.length : Nat) : Int)) ∧ HLV w' v (mkHL 1 l.length) ∧ HAV v w w' ∧ Below base w w' := by
  rcases h with ⟨rfl, rfl⟩ | ⟨g, c, rfl, hg, hi, hf⟩
  · exact (markHeaderS_nil w none 0 1).mono fun _ _ ⟨h1, h2⟩ => ⟨h1, .inl ⟨rfl, rfl⟩, .below h2, h2.mono hbs⟩
  · refine (markHeaderS_any w g 0 c l.length 1 l rfl hl (by omega) (by omega) hi hf hg).mono ?_
    rintro e w' ⟨h1, h2, h3, h4, h5⟩
    have hne : ∀ b, (Value.slice (some ⟨g, 0, none⟩) l.length c).ownBlock ≠ some b → b ≠ g := fun b hb e => hb (by subst e; rfl)
    refine ⟨h1, ?_, ⟨h3.size, fun b o hb hn => h3.cell b o hb (hne b hn), fun b o hb hn => h3.frozen b o hb (hne b hn)⟩, h4.mono (hb g rfl)⟩
    exact .inr ⟨g, c, by rw [mkHL_len], Nat.lt_of_lt_of_le hg h3.size, h2, h5⟩
theorem heldHeaderS_lv (w : World) (v : Value) (n : Nat) (hl : n ≤ 1048576) (h : HLV w v (mkHL 1 n)) :
    Calls Try.prog 20 #[v, .int .i64 1] w fun e w' => e = .returned (.int .i64 ((1 + 2 * n : Nat) : Int)) ∧ Below w.heap.size w w' := by
  rcases h with ⟨rfl, h0⟩ | ⟨g, c, rfl, _, hi, _⟩
  · have e := congrArg List.length h0
    rw [mkHL_len] at e
    simp at e
    subst e
    exact heldHeaderS_nil w none 0 1
  · rw [mkHL_len]
    exact heldHeaderS_any w g 0 c n 1 hl (by omega) (by omega) hi
end Go.Proofs.Ytjdkkfbijneedaa
