/-
  What itemText answers at an item without a fault.
-/
import Derived.Test.YtibomkcbopkpkaaDoorJoinPlain
import Derived.Test.YtibomkcbopkpkaaDoorItemFaultImpl
import Derived.Test.YtibomkcbopkpkaaDoorQuoteImpl
import Derived.Test.YtibomkcbopkpkaaDoorFields
namespace Go.Proofs.YtibomkcbopkpkaaDoor
open Go.ChangeShapes Go.WideShapes Go.ChangeAt Go.RowKit Go.Sort
theorem of_list {a : ByteArray} {l : List UInt8} (h : a.data.toList = l) : a = ⟨l.toArray⟩ := by subst h; cases a; simp
def itemB (r : Rec) : ByteArray := ⟨(itemL r).toArray⟩
set_option maxRecDepth 100000 in
set_option maxHeartbeats 4000000 in
theorem itemText_any (r : Rec) (w : World) (hset : SetIs w) (hf : faultR r = 0) :
    Calls Tryd.prog 76 #[.agg #[.string r.name, .bool r.has, .string r.value]] w fun e w' => e = .returned (.string (itemB r)) ∧ Below w.heap.size w w' := by
  obtain ⟨fw, fv, fp, _⟩ := fault_zero hf
  have hrn := word_max fw
  have H1 := @itemL_bare r
  have H2 := @itemL_word r
  have H3 := @itemL_quote r
  obtain ⟨n, h, v⟩ := r
  simp only at fw fv fp hrn H1 H2 H3 ⊢
  cases h
  · have HE : Hid (itemB ⟨n, false, v⟩ = n) := by
      show _ = _
      unfold itemB
      rw [H1 rfl]
    clear H1 H2 H3 fw fp hset hf
    go_enter Tryd.func76, Tryd.ntmps76
    go_wp2
    go_ret
    exact ⟨ret_str HE.out.symm, (Below.refl _ _).alloc (Nat.le_refl _) _⟩
  · have HW : Hid (Calls Tryd.prog 14 #[.string v] (w.alloc (.cells #[.string n, .bool true, .string v] 80)) fun e w' => e = .returned (.bool (wordS v)) ∧ Below (w.alloc (.cells #[.string n, .bool true, .string v] 80)).heap.size (w.alloc (.cells #[.string n, .bool true, .string v] 80)) w') := implIsWord_set v _ (hset.below ((Below.refl _ _).alloc (Nat.le_refl _) _))
    cases hw : wordS v
    · have HQ : Hid (∀ w, Calls Tryd.prog 119 #[.string v] w fun e w' => e = .returned (.agg #[.int .i64 0, .string (quoteT v)]) ∧ Below w.heap.size w w') := fun w => implQuote_any v w fv fp
      have HE : Hid (n ++ ⟨#[61]⟩ ++ quoteT v = itemB ⟨n, true, v⟩) := by
        show _ = _
        refine of_list ?_
        rw [H3 rfl hw]
        simp only [app_list, show (quoteT v).data.toList = quoteL v.data.toList from by simp [quoteT]]
      have hqz := quoteT_max v
      generalize quoteT v = q at *
      rw [hw] at HW
      clear H1 H2 H3 fw fp hset hf hw
      go_enter Tryd.func76, Tryd.ntmps76
      go_wp2_with fail
      refine HW.out.mono ?_
      rintro e w1 ⟨rfl, hb1⟩
      obtain ⟨hz1, p0, p1, p2, kb⟩ := item_room hb1
      have KB : Hid (Below w.heap.size w w1) := kb
      clear hb1 kb HW
      go_wp2_with fail
      have q0 := cell_regrown p0
      have q2 := cell_regrown p2
      have cSQ : ∀ d' os, Calls Tryd.prog 119 #[.string v] (grow (redrawn w1 d') os) fun e w'' => e = .returned (.agg #[.int .i64 0, .string q]) ∧ ∃ p : Regrown, w'' = grow (redrawn w1 p.d) p.os := fun d' os => Calls.regrown_of (HQ.out _)
      have hf2 := f_field_text
      refine wp_region_quiet_below (by kernel_rfl) (by kernel_rfl) ?_
      repeat (go_big_quiet_step (first | (go_at_call 119; exact cSQ _ _)))
      refine wpQuiet_nil ?_
      intro W2 hW2
      have hbW2 : Below w1.heap.size w1 W2 := by
        obtain ⟨⟨d, os⟩, rfl⟩ := hW2
        exact below_regrown w1 d os
      have KB2 : Hid (Below w.heap.size w W2) := KB.out.trans (hbW2.mono KB.out.size)
      clear hW2 hbW2 cSQ q0 q2 p0 p1 p2 HQ KB
      go_wp2_with fail
      go_ret
      exact ⟨ret_str HE.out, KB2.out⟩
    · have HE : Hid (n ++ ⟨#[61]⟩ ++ v = itemB ⟨n, true, v⟩) := by
        show _ = _
        refine of_list ?_
        rw [H2 rfl hw]
        simp only [app_list]
      rw [hw] at HW
      clear H1 H2 H3 fw fp hset hf hw
      go_enter Tryd.func76, Tryd.ntmps76
      go_wp2_with fail
      refine HW.out.mono ?_
      rintro e w1 ⟨rfl, hb1⟩
      obtain ⟨hz1, p0, p1, p2, kb⟩ := item_room hb1
      have KB : Hid (Below w.heap.size w w1) := kb
      clear hb1 kb HW
      go_wp2_with fail
      go_ret
      exact ⟨ret_str HE.out, KB.out⟩
end Go.Proofs.YtibomkcbopkpkaaDoor
