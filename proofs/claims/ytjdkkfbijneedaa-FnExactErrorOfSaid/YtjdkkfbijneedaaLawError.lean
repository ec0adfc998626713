/-
  The law of ErrorOf.
-/
import Derived.Test.YtjdkkfbijneedaaErrF
namespace Go.Proofs.Ytjdkkfbijneedaa
open Go.ChangeShapes Go.WideShapes Go.ChangeAt Go.RowKit Go.Sort
def MER (L : List Hdr) (ra : Option Addr) (rn rk : Nat) (rb : Option Addr) (rm rl : Nat) (lo hi : Nat) (X : World) : Prop :=
  rn = L.length ∧ HLV X (.slice ra rn rk) (mkHL 1 rn) ∧ (∀ b, (Value.slice ra rn rk).ownBlock = some b → lo ≤ b ∧ b < hi) ∧ rb = none ∧ rm = 0 ∧ rl = 0
theorem MER.dep (L : List Hdr) (ra : Option Addr) (rn rk : Nat) (rb : Option Addr) (rm rl lo hi : Nat) : Dep lo hi (MER L ra rn rk rb rm rl lo hi) := fun X X' _ h2 hc k => by
  obtain ⟨e, h, hb, r⟩ := k
  refine ⟨e, ?_, hb, r⟩
  rcases h with q | ⟨g, c, q, hg, hi', hf⟩
  · exact .inl q
  · obtain ⟨b1, b2⟩ := hb g (by rw [q]; rfl)
    exact .inr ⟨g, c, q, Nat.lt_of_lt_of_le hg h2, fun i r hr => by rw [(hc g _ b1 b2).1, (hc g _ b1 b2).1]; exact hi' i r hr, fun o => by rw [(hc g o b1 b2).2, hf]⟩
theorem errL_len (s : Int) : (errL s).length ≤ 1 := by unfold errL; split <;> simp
theorem lawErrorOf (w : World) (s : Int) :
    Calls Try.prog 3 #[.int .i64 s] w fun e w' => e = .returned (.bool true) ∧ Below w.heap.size w w' := by
  have hl := errL_len s
  refine walk_Error w s (errC s) (errS s) (ER (errL s)) (MER (errL s)) ((1 + 2 * (errL s).length + 0 : Nat) : Int) ?_ ?_ ?_ ?_ ?_ ?_
  · exact fun X _ => specError_any s X
  · exact fun X _ => implError_any s X
  · intro X la ha lb hb xa xn xk xb xm xl ya yn yk yb ym yl p q
    obtain ⟨e1, h1, _, rfl, rfl, rfl⟩ := p.val
    obtain ⟨e2, h2, _, rfl, rfl, rfl⟩ := q.val
    exact eqResponseResult_lv X _ _ xa ya xn yn xk yk none none 0 0 0 0 0 0 (errL s) [] (by omega) (by simp) h1 h2 (.inl ⟨rfl, rfl⟩) (.inl ⟨rfl, rfl⟩)
  · intro X lo hi ra rn rk rb rm rl hX p hb
    obtain ⟨e1, h1, hbk, rfl, rfl, rfl⟩ := p.val
    subst e1
    refine (markResponseResult_lv X _ _ ra _ rk none 0 0 lo (errL s) [] rfl (by omega) (by simp) h1 (.inl ⟨rfl, rfl⟩) w.heap.size (fun b hb' => Nat.le_trans hb (hbk b hb').1) hb hX.size _ rfl).mono ?_
    rintro e w' ⟨h4, h5⟩
    have g : Wi lo hi X w' := ⟨h5.av.size, fun b o h6 h7 => h5.av.cell b o h6 (fun q => by have := hbk b q; omega) (fun q => by cases q), fun b o h6 h7 => h5.av.frozen b o h6 (fun q => by have := hbk b q; omega) (fun q => by cases q)⟩
    exact ⟨h4, ⟨Nat.le_trans p.le g.size, MER.dep _ _ _ _ _ _ _ _ _, rfl, h5.lv, hbk, rfl, rfl, rfl⟩, g, h5.low⟩
  · intro X lo hi ra rn rk rb rm rl p
    obtain ⟨e1, h1, _, rfl, rfl, rfl⟩ := p.val
    subst e1
    exact heldResponseResult_lv X _ _ ra _ rk none 0 0 (by omega) (by omega) h1 (.inl rfl) _ rfl
  · omega
end Go.Proofs.Ytjdkkfbijneedaa
