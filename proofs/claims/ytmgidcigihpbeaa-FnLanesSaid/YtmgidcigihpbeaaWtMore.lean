/-
  Those who wait: appended to in a drawn region; a clone.
-/
import Derived.Test.YtmgidcigihpbeaaWGB
import Derived.Deep.RegionHeld3
import Derived.Deep.RegionLawGrows
import Derived.Lib.SliceRun
namespace Go.Proofs.Ytmgidcigihpbeaa
open Go.ChangeShapes Go.WideShapes Go.ChangeAt Go.RowKit Go.Sort
theorem step_appendInWt {ops : Array Oper} {o : Oper} {a : Act} {K : Act → World → Prop} {Q : Exit → Act → World → Prop} {E : Prop} (w : World) (hgd : o.guard = none) (s x : Operand)
    (ho : o.op = .call { callee := .builtin .append, args := #[s, x], argTypes := #[24, 24] }) (base : Nat) (v : Value) (l m : List Wt) (pa : Option Addr) (cap n : Nat) (hn : m.length = n)
    (hs : a.eval s = v) (hown : OwnWt w base v l) (hx : a.eval x = .slice pa n cap) (hin : WtIn w pa m) (hl : l.length + n ≤ 2000000) (hbase : base ≤ w.heap.size)
    (h : ∀ v' w', OwnWt w' base v' (l ++ m) → Below base w w' → K (a.put o.dst v') w') :
    if Region.wanted o (yielded ops a.tmps) = true then Oper.wp Try.prog o a w K Q else E := by
  subst hn
  obtain ⟨i0, hi, hz0, hz1, hz2⟩ := info_parts infoWt
  refine step_append_in w hgd s x 24 40 ho i0 _ 2 16 Try.underlying24 hi hz0 hz1 hz2 rfl (by decide) base v l.length (wWt l) hs hown pa cap m.length (wWt m) hx (wWt_len m) (wWt_in hin) (wWt_one m) (by unfold maxLen; omega) (by omega) hbase fun v' w' h1 h2 _ => h v' w' ?_ h2
  unfold OwnWt
  rw [List.length_append, show wWt (l ++ m) = wWt l ++ wWt m by simp [wWt]]
  exact h1
theorem step_append1Wt {ops : Array Oper} {o : Oper} {a : Act} {K : Act → World → Prop} {Q : Exit → Act → World → Prop} {E : Prop} (w : World) (hgd : o.guard = none) (s x : Operand)
    (ho : o.op = .call { callee := .builtin .append, args := #[s, x], argTypes := #[24, 24] }) (base : Nat) (v : Value) (l : List Wt) (r : Wt) (b0 n : Nat) (hn : l.length = n)
    (hs : a.eval s = v) (hown : OwnWt w base v l) (hx : a.eval x = .slice (some ⟨b0, 0, none⟩) 1 1) (h0 : w.cell? ⟨b0, 0, none⟩ = some (.int .i64 r.wi)) (h1 : w.cell? ⟨b0, 1, none⟩ = some (.int .i64 r.du)) (hl : n ≤ 1000000) (hbase : base ≤ w.heap.size)
    (h : ∀ g cap w', OwnWt w' base (.slice (some ⟨g, 0, none⟩) (n + 1) cap) (l ++ [r]) → w.grownBy w' v.ownBlock → (v.ownBlock = some g ∨ g = w.heap.size) → K (a.put o.dst (.slice (some ⟨g, 0, none⟩) (n + 1) cap)) w') :
    if Region.wanted o (yielded ops a.tmps) = true then Oper.wp Try.prog o a w K Q else E := by
  subst hn
  have hw : Region.wanted o (yielded ops a.tmps) = true := by simp [Region.wanted, hgd]
  rw [if_pos hw]
  obtain ⟨i0, hi, hz0, hz1, hz2⟩ := info_parts infoWt
  refine wp_append_lies w s x 24 ho base 40 i0 _ 2 16 Try.underlying24 hi hz0 hz1 hz2 rfl (by decide) v l.length (wWt l) hs hown ⟨b0, 0, none⟩ 1 1 (cellWt r) hx rfl ?_ ?_ (by decide) (by unfold maxLen; omega) (by omega) hbase _ rfl ?_
  · intro j u hj
    match j, hj with
    | 0, hj => simp [cellWt] at hj; subst hj; simpa [Addr.add] using h0
    | 1, hj => simp [cellWt] at hj; subst hj; simpa [Addr.add] using h1
  · intro u hu; simp [cellWt] at hu; rcases hu with rfl | rfl <;> rfl
  · intro g cap w' h2 h3 h4 _
    refine h g cap w' ?_ h3 h4
    unfold OwnWt
    rw [List.length_append, show wWt (l ++ [r]) = wWt l ++ cellWt r by simp [wWt]]
    exact h2
/-- A slice that was handed in, cut where it ends: what is appended lies anew. -/
theorem step_appendNewWt {ops : Array Oper} {o : Oper} {a : Act} {K : Act → World → Prop} {Q : Exit → Act → World → Prop} {E : Prop} {w : World} (hgd : o.guard = none) (s x : Operand)
    (ho : o.op = .call { callee := .builtin .append, args := #[s, x], argTypes := #[24, 24] }) (l : List Wt) (r : Wt) (pa : Option Addr) (n : Nat) (g : Nat) (hn : l.length = n) (hnn : pa = none → n = 0)
    (hs : a.eval s = .slice pa n n) (hin : WtIn w pa l) (hx : a.eval x = .slice (some ⟨g, 0, none⟩) 1 1) (h0 : w.cell? ⟨g, 0, none⟩ = some (.int .i64 r.wi)) (h1 : w.cell? ⟨g, 1, none⟩ = some (.int .i64 r.du)) (hl : n ≤ 1000000)
    (h : ∀ v' w', OwnWt w' w.heap.size v' (l ++ [r]) → Below w.heap.size w w' → K (a.put o.dst v') w') :
    if Region.wanted o (yielded ops a.tmps) = true then Oper.wp Try.prog o a w K Q else E := by
  subst hn
  obtain ⟨i0, hi, hz0, hz1, hz2⟩ := info_parts infoWt
  refine step_append_grows hgd s x 24 ho 40 i0 _ 2 16 Try.underlying24 hi hz0 hz1 hz2 rfl (by decide) pa l.length l.length (wWt l) hs (fun e => ⟨hnn e, hnn e⟩) (wWt_len l) ?_ ⟨g, 0, none⟩ 1 1 (cellWt r) hx rfl ?_ ?_ (by omega) (by unfold maxLen; omega) (by omega) ?_
  · intro b e j u hj
    rcases wWt_in hin with h | ⟨ad, e2, h⟩
    · have := (List.getElem?_eq_some_iff.1 hj).1
      rw [wWt_len] at this
      omega
    · rw [e] at e2
      obtain rfl := Option.some.inj e2
      exact h j u hj
  · intro j u hj
    match j, hj with
    | 0, hj => simp [cellWt] at hj; subst hj; simpa [Addr.add] using h0
    | 1, hj => simp [cellWt] at hj; subst hj; simpa [Addr.add] using h1
  · intro u hu; simp [cellWt] at hu; rcases hu with rfl | rfl <;> rfl
  · intro v' w' h3 h4
    refine h v' w' ?_ ((Below.refl _ _).grown h4 (Nat.le_refl _) (fun q hq => by cases hq))
    unfold OwnWt
    rw [List.length_append, show wWt (l ++ [r]) = wWt l ++ cellWt r by simp [wWt]]
    exact h3
theorem WtIn.one {w : World} {g : Nat} {x y : Int} (h0 : w.cell? ⟨g, 0, none⟩ = some (.int .i64 x)) (h1 : w.cell? ⟨g, 1, none⟩ = some (.int .i64 y)) : WtIn w (some ⟨g, 0, none⟩) [⟨x, y⟩] := by
  refine .inr ⟨g, 0, rfl, fun i r hr => ?_⟩
  match i, hr with
  | 0, hr => simp at hr; subst hr; exact ⟨by simpa using h0, by simpa using h1⟩
/-- A list of one's own is handed back. -/
def WtRes (w : World) (base : Nat) (l : List Wt) (e : Ending) : Prop := ∃ a c, e = .returned (.slice a l.length c) ∧ WtNew w base (.slice a l.length c) l ∧ l.length ≤ c
theorem WtRes.of {w : World} {base : Nat} {l : List Wt} {v : Value} (h : OwnWt w base v l) : WtRes w base l (.returned v) := by
  obtain ⟨a, c, rfl, hc, _⟩ := h.in
  exact ⟨a, c, rfl, h.new, hc⟩
theorem WtRes.nil (w : World) (base : Nat) (a : Option Addr) (c : Nat) : WtRes w base [] (.returned (.slice a 0 c)) := ⟨a, c, rfl, WtNew.nil _ _ _ _, by simp⟩
set_option maxRecDepth 100000 in
set_option maxHeartbeats 1000000 in
theorem cloneWt_any (w : World) (a : Option Addr) (cap : Nat) (l : List Wt) (hl : l.length ≤ 1048576) (hi : WtIn w a l) :
    Calls Try.prog 43 #[.slice a l.length cap] w fun e w' => WtRes w' w.heap.size l e ∧ Below w.heap.size w w' := by
  cases a with
  | none =>
    have e : l = [] := by
      rcases hi with h | ⟨b, off, h, _⟩
      · exact h
      · cases h
    subst e
    have hq : ∀ W : World, (binOp .eql 24 (.slice none 0 cap) (.slice none 0 0)).run Try.prog W = .ok (.bool true) W := fun W => Go.Lib.run_eql_slice_nil W _ _ none 0 cap 0 0 Try.underlying24
    simp only [List.length_nil]
    go_enter Try.func43, Try.ntmps43
    go_wp2
    go_ret
    exact ⟨WtRes.nil _ _ _ _, Below.refl _ _⟩
  | some ad =>
    have HI : Hid (WtIn w (some ad) l) := hi
    clear hi
    have HO0 : Hid (OwnWt (w.alloc (.cells #[] 40)) w.heap.size (.slice (some ⟨w.heap.size, 0, none⟩) 0 0) []) := OwnWt.made0 w w.heap.size (Nat.le_refl _)
    have HB0 : Hid (Below w.heap.size w (w.alloc (.cells #[] 40))) := (Below.refl _ _).alloc (Nat.le_refl _) _
    obtain ⟨n, hn⟩ : ∃ n, l.length = n := ⟨_, rfl⟩
    have HN : Hid (l.length = n) := hn
    rw [hn] at hl ⊢
    clear hn
    have hq : ∀ W : World, (binOp .eql 24 (.slice (some ad) n cap) (.slice none 0 0)).run Try.prog W = .ok (.bool false) W := fun W => Go.Lib.run_eql_slice_nil W _ _ (some ad) n cap 0 0 Try.underlying24
    go_enter Try.func43, Try.ntmps43
    go_wp2_with (at_builtin; refine wpList_appendInWt _ rfl (.tmp 5) (.tmp 6) rfl w.heap.size _ [] l (some ad) cap rfl (by rw [HN.out]; rfl) HO0.out (HI.out.keep HB0.out) (by simp; have := HN.out; omega) (by simp) ?_; intro v1 w1 ho1 hb1)
    go_ret
    exact ⟨WtRes.of ho1, HB0.out.trans hb1⟩
end Go.Proofs.Ytmgidcigihpbeaa
