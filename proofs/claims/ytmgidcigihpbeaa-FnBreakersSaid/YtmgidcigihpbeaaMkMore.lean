/-
  Marks: one more appended in a drawn region, and where the row lies then.
-/
import Derived.Test.YtmgidcigihpbeaaMkOwn
import Derived.Test.YtmgidcigihpbeaaOneB
import Derived.Deep.AppendLies
import Derived.Deep.RegionHeld3
import Derived.Deep.RegionLawGrows
namespace Go.Proofs.Ytmgidcigihpbeaa
open Go.ChangeShapes Go.WideShapes Go.ChangeAt Go.RowKit Go.Sort
theorem step_append1Mk {ops : Array Oper} {o : Oper} {a : Act} {K : Act → World → Prop} {Q : Exit → Act → World → Prop} {E : Prop} (w : World) (hgd : o.guard = none) (s x : Operand)
    (ho : o.op = .call { callee := .builtin .append, args := #[s, x], argTypes := #[49, 49] }) (base : Nat) (v : Value) (l : List Mk) (r : Mk) (b0 n : Nat) (hn : l.length = n)
    (hs : a.eval s = v) (hown : OwnMk w base v l) (hx : a.eval x = .slice (some ⟨b0, 0, none⟩) 1 1) (h0 : w.cell? ⟨b0, 0, none⟩ = some (.int .i64 r.tm)) (h1 : w.cell? ⟨b0, 1, none⟩ = some (.bool r.gd)) (hl : n ≤ 1000000) (hbase : base ≤ w.heap.size)
    (h : ∀ g cap w', OwnMk w' base (.slice (some ⟨g, 0, none⟩) (n + 1) cap) (l ++ [r]) → w.grownBy w' v.ownBlock → (v.ownBlock = some g ∨ g = w.heap.size) → K (a.put o.dst (.slice (some ⟨g, 0, none⟩) (n + 1) cap)) w') :
    if Region.wanted o (yielded ops a.tmps) = true then Oper.wp Try.prog o a w K Q else E := by
  subst hn
  have hw : Region.wanted o (yielded ops a.tmps) = true := by simp [Region.wanted, hgd]
  rw [if_pos hw]
  obtain ⟨i0, hi, hz0, hz1, hz2⟩ := info_parts infoMk
  refine wp_append_lies w s x 49 ho base 112 i0 _ 2 16 Try.underlying49 hi hz0 hz1 hz2 rfl (by decide) v l.length (wMk l) hs hown ⟨b0, 0, none⟩ 1 1 (cellMk r) hx rfl ?_ ?_ (by decide) (by unfold maxLen; omega) (by omega) hbase _ rfl ?_
  · intro j u hj
    match j, hj with
    | 0, hj => simp [cellMk] at hj; subst hj; simpa [Addr.add] using h0
    | 1, hj => simp [cellMk] at hj; subst hj; simpa [Addr.add] using h1
  · intro u hu; simp [cellMk] at hu; rcases hu with rfl | rfl <;> rfl
  · intro g cap w' h2 h3 h4 _
    refine h g cap w' ?_ h3 h4
    unfold OwnMk
    rw [List.length_append, show wMk (l ++ [r]) = wMk l ++ cellMk r by simp [wMk]]
    exact h2
theorem wpList_append1MkG {ops : Array Oper} {rest : List Oper} {o : Oper} {a : Act} {Q : Exit → Act → World → Prop} (w : World) (hgd : o.guard = none) (s x : Operand)
    (ho : o.op = .call { callee := .builtin .append, args := #[s, x], argTypes := #[49, 49] }) (base : Nat) (v : Value) (l : List Mk) (r : Mk) (b0 n : Nat) (hn : l.length = n)
    (hs : a.eval s = v) (hown : OwnMk w base v l) (hx : a.eval x = .slice (some ⟨b0, 0, none⟩) 1 1) (h0 : w.cell? ⟨b0, 0, none⟩ = some (.int .i64 r.tm)) (h1 : w.cell? ⟨b0, 1, none⟩ = some (.bool r.gd)) (hl : n ≤ 1000000) (hbase : base ≤ w.heap.size)
    (h : ∀ g cap w', OwnMk w' base (.slice (some ⟨g, 0, none⟩) (n + 1) cap) (l ++ [r]) → w.grownBy w' v.ownBlock → (v.ownBlock = some g ∨ g = w.heap.size) → wpList Try.prog ops Q rest (a.put o.dst (.slice (some ⟨g, 0, none⟩) (n + 1) cap)) w') :
    wpList Try.prog ops Q (o :: rest) a w := by
  subst hn
  obtain ⟨i0, hi, hz0, hz1, hz2⟩ := info_parts infoMk
  refine wpList_plain hgd fun _ hK => ?_
  refine wp_append_lies w s x 49 ho base 112 i0 _ 2 16 Try.underlying49 hi hz0 hz1 hz2 rfl (by decide) v l.length (wMk l) hs hown ⟨b0, 0, none⟩ 1 1 (cellMk r) hx rfl ?_ ?_ (by decide) (by unfold maxLen; omega) (by omega) hbase _ rfl ?_
  · intro j u hj
    match j, hj with
    | 0, hj => simp [cellMk] at hj; subst hj; simpa [Addr.add] using h0
    | 1, hj => simp [cellMk] at hj; subst hj; simpa [Addr.add] using h1
  · intro u hu; simp [cellMk] at hu; rcases hu with rfl | rfl <;> rfl
  · intro g cap w' h2 h3 h4 _
    refine hK _ _ (h g cap w' ?_ h3 h4)
    unfold OwnMk
    rw [List.length_append, show wMk (l ++ [r]) = wMk l ++ cellMk r by simp [wMk]]
    exact h2
end Go.Proofs.Ytmgidcigihpbeaa
