/-
  Who leaves a bulkhead of one's own, by the model: its queue lies in a row of its own.
-/
import Derived.Test.YtmgidcigihpbeaaLeaveP
import Derived.Test.YtmgidcigihpbeaaEnterSO
namespace Go.Proofs.Ytmgidcigihpbeaa
open Go.ChangeShapes Go.WideShapes Go.ChangeAt Go.RowKit Go.Sort
def LeftO (w w' : World) (O bs : Nat) (y : Int) (l : List Wt) (e : Ending) : Prop := ∃ a2 c2, e = .returned (.int .i64 (nextW l)) ∧ D2 w' O (.int .i64 (busyW y l)) (.slice a2 l.tail.length c2) ∧ OwnWt w' bs (.slice a2 l.tail.length c2) l.tail ∧ l.tail.length ≤ c2 ∧ w.grownBy w' (some O)
set_option maxRecDepth 100000 in
set_option maxHeartbeats 4000000 in
theorem specLeftO_any (w : World) (O bs : Nat) (y : Int) (a : Option Addr) (cap : Nat) (l : List Wt) (hy : 1 ≤ y ∧ y ≤ 8) (hl : l.length ≤ 8) (hc : l.length ≤ cap) (hbs : bs ≤ w.heap.size) (hB : D2 w O (.int .i64 y) (.slice a l.length cap)) (hi : WtIn w a l) (ho : OwnWt w bs (.slice a l.length cap) l) (hne : ∀ G, (Value.slice a l.length cap).ownBlock = some G → G ≠ O) :
    Calls Try.prog 53 #[.pointer (some ⟨O, 0, none⟩)] w fun e w' => LeftO w w' O bs y l e := by
  have HB := hid11 hB
  obtain ⟨o0, o1, of, olt⟩ := hB
  have of0 := of 0
  have of1 := of 1
  cases l with
  | nil =>
    have wy : IntKind.i64.wrap (y - 1) = y - 1 := by rw [IntKind.wrap_i64]; omega
    have HF : Hid (D2 (w.setCell ⟨O, 0, none⟩ (.int .i64 (y - 1))) O (.int .i64 (y - 1)) (.slice a 0 cap)) := ⟨World.cell?_setCell_same _ _ _ o0, by rw [World.cell?_setCell_other _ _ _ _ (fun e => by have := congrArg Addr.off e; simp at this)]; exact o1, fun o => by rw [World.frozen?_setCell]; exact of o, by simpa using olt⟩
    have HOW := hid11 (ho.gwX (gwSet w O 0 (.int .i64 (y - 1))) hne)
    simp only [List.length_nil] at *
    clear ho hne
    clear hi hc of
    go_enter Try.func53, Try.ntmps53
    go_wp2_with fail
    go_ret
    exact ⟨a, cap, rfl, HF.out, HOW.out, by simp, gwSet _ _ _ _⟩
  | cons r k =>
    clear ho hne
    rcases hi with h | ⟨b, off, rfl, hat⟩
    · cases h
    obtain ⟨p0, p1⟩ := hat 0 r rfl
    simp only [Nat.zero_mul, Nat.add_zero] at p0 p1
    have HT := hid11 (WtIn.tail2 hat (by simpa using hc))
    obtain ⟨n, hn⟩ : ∃ n, k.length = n := ⟨_, rfl⟩
    simp only [List.length_cons, hn] at HB o1 hl hc
    have HN : Hid (k.length = n) := hn
    have g0 : ¬ ((n + 1 : Nat) : Int) = 0 := by omega
    have g1 : (((n + 1 : Nat) : Int) == 0) = false := by simp; omega
    have g2 : (0 : Int) < ((n + 1 : Nat) : Int) := by omega
    have g3 : (1 : Int) ≤ ((n + 1 : Nat) : Int) := by omega
    have g4 : ((n + 1 : Nat) : Int) ≤ cap := by omega
    have HO0 : Hid (OwnWt (w.alloc (.cells #[] 40)) w.heap.size (.slice (some ⟨w.heap.size, 0, none⟩) 0 0) []) := OwnWt.made0 w w.heap.size (Nat.le_refl _)
    have HB0 : Hid (Below w.heap.size w (w.alloc (.cells #[] 40))) := (Below.refl _ _).alloc (Nat.le_refl _) _
    have HIT := hid11 (HT.out.keep HB0.out)
    clear hat hn
    go_enter Try.func53, Try.ntmps53
    obtain ⟨pa, hpa⟩ : ∃ pa, (if cap = 1 then some (⟨b, off, none⟩ : Addr) else some ⟨b, off + 2, none⟩) = pa := ⟨_, rfl⟩
    rw [hpa] at HIT
    go_wp2_with (at_builtin; refine wpList_appendInWt _ rfl (.tmp 25) (.tmp 30) rfl w.heap.size _ [] k pa (cap - 1) rfl (by rw [HN.out]; first | rfl | (rw [← hpa]; rfl)) HO0.out HIT.out (by simp; have := HN.out; omega) (by simp) ?_; intro v1 w1 ho1 hb1; obtain ⟨va, vc, rfl, _, _⟩ := ho1.in; simp only [List.nil_append] at ho1 ⊢; rw [HN.out] at ho1 ⊢; have HX : Hid (OwnWt w1 w.heap.size (.slice va n vc) k ∧ Below w.heap.size w w1) := ⟨ho1, HB0.out.trans hb1⟩; clear ho1 hb1 o0 o1 of of0 of1 p0 p1; obtain ⟨q0, q1, qf, _⟩ := HB.out.keep HX.out.2; have qf1 := qf 1)
    go_ret
    have q := HB.out.keep HX.out.2
    have hlt := HB.out.lt
    refine ⟨va, vc, rfl, ⟨by rw [World.cell?_setCell_other _ _ _ _ (fun e => by have := congrArg Addr.off e; simp at this)]; exact q.c0, by rw [World.cell?_setCell_same _ _ _ q.c1]; simp only [List.tail_cons, HN.out], fun o => by rw [World.frozen?_setCell]; exact q.fr o, by simpa using q.lt⟩, ?_, ?_, gwTrans (gwBelow _ HX.out.2) (gwSet _ _ _ _)⟩
    · simp only [List.tail_cons, HN.out]
      exact (HX.out.1.gw (gwSet _ _ _ _) hlt).lower hbs
    · simp only [List.tail_cons, HN.out]
      exact HX.out.1.cap
end Go.Proofs.Ytmgidcigihpbeaa
