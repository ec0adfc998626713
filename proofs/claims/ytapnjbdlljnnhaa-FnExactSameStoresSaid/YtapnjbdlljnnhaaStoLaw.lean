/-
  A store that a law is about: what its own helpers make of it.
-/
import Derived.Test.YtapnjbdlljnnhaaStoRows
namespace Go.Proofs.Ytapnjbdlljnnhaa
open Go.ChangeShapes Go.WideShapes Go.ChangeAt Go.RowKit Go.Sort
/-- A store that came in. -/
structure StoArg (w : World) (ta ka : Option Addr) (tl kl : List (Ent × EntR)) : Prop where
  t : EntsIn w ta tl
  k : EntsIn w ka kl
  tn : tl.length ≤ maxLen
  kn : kl.length ≤ maxLen
  ts : ∀ q ∈ tl, EntSm q.1
  ks : ∀ q ∈ kl, EntSm q.1
theorem StoArg.keep {w w' : World} {ta ka : Option Addr} {tl kl : List (Ent × EntR)} (h : StoArg w ta ka tl kl) (hb : Below w.heap.size w w') : StoArg w' ta ka tl kl := ⟨h.t.keep hb, h.k.keep hb, h.tn, h.kn, h.ts, h.ks⟩
structure StoFit (tl kl : List (Ent × EntR)) : Prop where
  tn : tl.length ≤ 1048576
  kn : kl.length ≤ 1048576
  tf : ∀ q ∈ tl, EntFit q.1
  kf : ∀ q ∈ kl, EntFit q.1
theorem szSt_room {left : Int} {tl kl : List (Ent × EntR)} (hl : left ≤ 1048576) (h : ¬ szSt left tl kl < 0) : StoFit tl kl ∧ szSt left tl kl ≤ left := by
  unfold szSt at h ⊢
  by_cases c1 : szEL left tl < 0
  · rw [if_pos c1] at h; omega
  rw [if_neg c1] at h ⊢
  by_cases c2 : szEL (szEL left tl) kl < 0
  · rw [if_pos c2] at h; omega
  rw [if_neg c2]
  have r1 := szEL_room hl c1
  have r2 := szEL_room (Int.le_trans r1.1 hl) c2
  exact ⟨⟨r1.2.1, r2.2.1, r1.2.2, r2.2.2⟩, by omega⟩
/-- A copy of it, its holder's own. -/
def StoNew (W : World) (G1 G2 : Nat) (tl kl : List (Ent × EntR)) : Prop := ∃ tl' kl', tl'.map Prod.fst = tl.map Prod.fst ∧ kl'.map Prod.fst = kl.map Prod.fst ∧ StoMine W G1 G2 tl' kl'
theorem StoNew.keep {W W' : World} {G1 G2 : Nat} {tl kl : List (Ent × EntR)} (h : StoNew W G1 G2 tl kl) (hb : Below W.heap.size W W') : StoNew W' G1 G2 tl kl := by
  obtain ⟨a, b, e1, e2, m⟩ := h
  exact ⟨a, b, e1, e2, m.keep hb⟩
theorem fit_map {l m : List (Ent × EntR)} (e : l.map Prod.fst = m.map Prod.fst) (h : ∀ q ∈ m, EntFit q.1) : ∀ q ∈ l, EntFit q.1 := by
  intro q hq
  have : q.1 ∈ m.map Prod.fst := by rw [← e]; exact List.mem_map_of_mem hq
  obtain ⟨p, hp, e2⟩ := List.mem_map.1 this
  rw [← e2]
  exact h p hp
theorem len_map {l m : List (Ent × EntR)} (e : l.map Prod.fst = m.map Prod.fst) : l.length = m.length := by
  have := congrArg List.length e
  simpa using this
theorem szStore_arg (w : World) (bu gu : Int) (ta ka : Option Addr) (tc kc : Nat) (tl kl : List (Ent × EntR)) (left : Int) (h0 : 0 ≤ left) (h1 : left ≤ 1048576) (h : StoArg w ta ka tl kl) :
    Calls Try.prog 4 #[.agg #[.int .i64 bu, .int .i64 gu, .slice ta tl.length tc, .slice ka kl.length kc], .int .i64 left] w fun r w' => r = .returned (.int .i64 (szSt left tl kl)) ∧ Below w.heap.size w w' :=
  szStore_any w bu gu ta ka tc kc tl kl left h0 h1 h.tn h.kn h.ts h.ks h.t h.k
theorem toStore_arg (w : World) (bu gu : Int) (ta ka : Option Addr) (tc kc : Nat) (tl kl : List (Ent × EntR)) (h : StoArg w ta ka tl kl) (hf : StoFit tl kl) :
    Calls Try.prog 6 #[.agg #[.int .i64 bu, .int .i64 gu, .slice ta tl.length tc, .slice ka kl.length kc]] w fun ee w' => (∃ G1 G2, ee = .returned (.agg #[.int .i64 bu, .int .i64 gu, .slice (some ⟨G1, 0, none⟩) tl.length tl.length, .slice (some ⟨G2, 0, none⟩) kl.length kl.length]) ∧ StoNew w' G1 G2 tl kl ∧ w.heap.size ≤ G1) ∧ Below w.heap.size w w' := by
  refine (toStore_any w bu gu ta ka tc kc tl kl hf.tn hf.kn hf.tf hf.kf h.t h.k).mono ?_
  rintro e w' ⟨⟨G1, G2, a, b, rfl, e1, e2, m, hg⟩, hb⟩
  exact ⟨⟨G1, G2, rfl, ⟨a, b, e1, e2, m⟩, hg⟩, hb⟩
theorem eqStore_new (w : World) (bu gu : Int) (tl kl : List (Ent × EntR)) (G1 G2 H1 H2 : Nat) (hf : StoFit tl kl) (h : StoNew w G1 G2 tl kl) (k : StoNew w H1 H2 tl kl) :
    Calls Try.prog 8 #[.agg #[.int .i64 bu, .int .i64 gu, .slice (some ⟨G1, 0, none⟩) tl.length tl.length, .slice (some ⟨G2, 0, none⟩) kl.length kl.length], .agg #[.int .i64 bu, .int .i64 gu, .slice (some ⟨H1, 0, none⟩) tl.length tl.length, .slice (some ⟨H2, 0, none⟩) kl.length kl.length]] w fun r w' => r = .returned (.bool true) ∧ Below w.heap.size w w' := by
  obtain ⟨a, b, e1, e2, m⟩ := h
  obtain ⟨c, d, e3, e4, n⟩ := k
  have l1 := len_map e1
  have l2 := len_map e2
  rw [← l1, ← l2]
  exact eqStore_same w bu gu _ _ _ _ _ _ _ _ a c b d (by rw [l1]; exact hf.tn) (by rw [l2]; exact hf.kn) (fit_map e1 hf.tf) (fit_map e2 hf.kf) (e1.trans e3.symm) (e2.trans e4.symm) m.t.in n.t.in m.k.in n.k.in
end Go.Proofs.Ytapnjbdlljnnhaa
