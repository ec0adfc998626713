/-
  What SetHeader and its model answer.
-/
import Derived.Test.YthlenlijdlfdeaaDoorHSetSpec
import Derived.StillTail
namespace Go.Proofs.YthlenlijdlfdeaaDoor
open Go.ChangeShapes Go.WideShapes Go.ChangeAt Go.RowKit Go.Sort
theorem wpAny_seq2 {P : Program} {md : Region.Mode} {ops : Array Oper} {Q : Exit → Act → World → Prop} {k : Nat} {o1 o2 : Oper} {listed : Array Bool} {a : Act} {w : World} (h1 : ops[k]? = some o1) (h2 : ops[k + 1]? = some o2) (h4 : ops.size = k + 2)
    (hB : Region.seqB md ops 2 k listed = true) (h : wpList P ops Q [o1, o2] a w) : wpAny P md ops Q 2 listed a w :=
  wpAny_of_seq [o1, o2] k listed a w (fun j => by
    match j with
    | 0 => simpa using h1.symm
    | 1 => simpa using h2.symm
    | j + 2 => rw [Array.getElem?_eq_none (by omega)]; simp) hB h
theorem set_ask {l : List Hdr} {h : Hdr} (h0 : askC l h.name ≠ 0) : setC l h = askC l h.name ∧ setL l h = [] := by
  have e : setC l h = askC l h.name := by unfold setC; rw [if_neg h0]
  exact ⟨e, by unfold setL; rw [if_neg (by rw [e]; exact h0)]⟩
theorem set_line {l : List Hdr} {h : Hdr} (h0 : askC l h.name = 0) (h1 : faultH h ≠ 0) : setC l h = faultH h ∧ setL l h = [] := by
  have e : setC l h = faultH h := by unfold setC; rw [if_pos h0, if_neg h1]
  exact ⟨e, by unfold setL; rw [if_neg (by rw [e]; exact h1)]⟩
theorem set_many {l : List Hdr} {h : Hdr} (h0 : askC l h.name = 0) (h1 : faultH h = 0) (h2 : 20 < (setGo h false l).length) : setC l h = 2 ∧ setL l h = [] := by
  have e : setC l h = 2 := by unfold setC; rw [if_pos h0, if_pos h1, if_pos h2]
  exact ⟨e, by unfold setL; rw [if_neg (by rw [e]; decide)]⟩
theorem set_ok {l : List Hdr} {h : Hdr} (h0 : askC l h.name = 0) (h1 : faultH h = 0) (h2 : ¬ 20 < (setGo h false l).length) : setC l h = 0 ∧ setL l h = setGo h false l := by
  have e : setC l h = 0 := by unfold setC; rw [if_pos h0, if_pos h1, if_neg h2]
  exact ⟨e, by unfold setL; rw [if_pos e]⟩
theorem setL_len (l : List Hdr) (h : Hdr) : (setL l h).length ≤ 20 := by
  by_cases h0 : askC l h.name = 0
  · by_cases h1 : faultH h = 0
    · by_cases h2 : 20 < (setGo h false l).length
      · rw [(set_many h0 h1 h2).2]; exact Nat.zero_le _
      · rw [(set_ok h0 h1 h2).2]; omega
    · rw [(set_line h0 h1).2]; exact Nat.zero_le _
  · rw [(set_ask h0).2]; exact Nat.zero_le _
theorem first_le {x : ByteArray} : ∀ {l : List Hdr} {i : Nat}, firstAt x l = some i → i ≤ (dropH x l).length
  | [], i, h => by simp [firstAt] at h
  | r :: l, i, h => by
    by_cases c : lowS r.name = x
    · rw [firstAt, if_pos c] at h; obtain rfl := Option.some.inj h; exact Nat.zero_le _
    · rw [firstAt, if_neg c] at h
      obtain ⟨j, hj, rfl⟩ := Option.map_eq_some_iff.1 h
      have := first_le hj
      simp only [dropH] at this
      simp only [dropH, List.filter_cons, c, not_false_eq_true, decide_true, if_true, List.length_cons]
      omega
theorem ownH_lt {w : World} {base : Nat} {v : Value} {l : List Hdr} (h : OwnH w base v l) : ∀ g, v.ownBlock = some g → g < w.heap.size := fun g hg => (World.ownsRow.lt h g hg).2
set_option maxRecDepth 100000 in
set_option maxHeartbeats 4000000 in
theorem specSet_any (w : World) (a : Option Addr) (cap : Nat) (l : List Hdr) (name value : ByteArray) (hl : l.length ≤ 1048576) (hi : HdsIn w a l) :
    Calls Tryd.prog 19 #[.slice a l.length cap, .string name, .string value] w fun e w' => HRes (setC l ⟨name, value⟩) (setL l ⟨name, value⟩) w.heap.size e w' ∧ Below w.heap.size w w' := by
  have HA : Hid (∀ W, Below w.heap.size w W → Calls Tryd.prog 54 #[.slice a l.length cap, .string name] W fun e w' => e = .returned (.int .i64 (askC l name)) ∧ Below W.heap.size W w') := fun W hb => l4Ask_any W a cap l name hl (hi.keep hb)
  have HF : Hid (∀ W, Calls Tryd.prog 53 #[.agg #[.string name, .string value]] W fun e w' => e = .returned (.int .i64 (faultH ⟨name, value⟩)) ∧ Below W.heap.size W w') := fun W => l4Line_any ⟨name, value⟩ W
  by_cases h0 : askC l name = 0
  · obtain ⟨h20, hz, hnm⟩ := asked h0
    have HG : Hid (∀ W, Below w.heap.size w W → Calls Tryd.prog 55 #[.slice a l.length cap, .agg #[.string name, .string value]] W fun e w' => KeptRes W.heap.size (setGo ⟨name, value⟩ false l) e w' ∧ Below W.heap.size W w') := fun W hb => l4Set_any W a cap l ⟨name, value⟩ h20 (fun i r hr => (hz i r hr).1) hnm (hi.keep hb)
    have S1 := @set_line l ⟨name, value⟩ h0
    have S2 := @set_many l ⟨name, value⟩ h0
    have S3 := @set_ok l ⟨name, value⟩ h0
    have hsl : (setGo ⟨name, value⟩ false l).length ≤ 1000 := by
      rw [setGo_len]
      have := dropH_len (lowS name) l
      cases firstAt (lowS (Hdr.mk name value).name) l <;> simp only <;> omega
    rw [h0] at HA
    clear hi hz h0 h20 hnm
    generalize l.length = n at *
    by_cases h1 : faultH ⟨name, value⟩ = 0
    · rw [h1] at HF
      by_cases h2 : 20 < (setGo ⟨name, value⟩ false l).length
      · have HY : Hid (setC l ⟨name, value⟩ = 2 ∧ setL l ⟨name, value⟩ = []) := S2 h1 h2
        clear S1 S2 S3 h1
        generalize setGo ⟨name, value⟩ false l = M at *
        have gM : (20 : Int) < (M.length : Int) := by omega
        go_enter Tryd.func19, Tryd.ntmps19
        go_wp2_with fail
        refine (HA.out _ ((Below.refl _ _).alloc (Nat.le_refl _) _)).mono ?_
        rintro e w1 ⟨rfl, hb1⟩
        rw [World.size_alloc] at hb1
        have HB1 : Hid (Below (w.heap.size + 1) (w.alloc (.cells #[.int .i64 0, .slice none 0 0] 31)) w1) := hb1
        have hz1 : w.heap.size + 1 ≤ w1.heap.size := by have := hb1.size; rwa [World.size_alloc] at this
        clear hb1 HA
        go_wp2_with fail
        refine (HF.out _).mono ?_
        rintro e w2 ⟨rfl, hb2⟩
        obtain ⟨hz2, l0, l1, kb2⟩ := hdr_room hb2
        have HB2 : Hid (Below (w.heap.size + 1) (w.alloc (.cells #[.int .i64 0, .slice none 0 0] 31)) w2) := HB1.out.trans (kb2.mono hz1)
        have hz2' : w.heap.size + 1 ≤ w2.heap.size := Nat.le_trans hz1 kb2.size
        clear hb2 kb2 HB1 HF
        go_wp2_with fail
        refine (HG.out _ (heads_room HB2.out).2.2.2.2.2).mono ?_
        rintro e w3 ⟨⟨v, rfl, ho⟩, hb3⟩
        obtain ⟨va, vc, hv, _⟩ := ho.at
        subst hv
        obtain ⟨hz3, q0, q1, f0, f1, kb⟩ := heads_room (HB2.out.trans (hb3.mono hz2'))
        obtain ⟨r0, r1⟩ := two_set (v0 := .int .i64 2) (v1 := .slice none 0 0) q0 q1
        clear ho hb3 HB2 HG
        generalize M.length = mn at *
        go_wp2_with fail
        exact bodyPost_ret (v := .agg #[.int .i64 2, .slice none 0 0]) (by simp [results, Tryd.results19, go_sem, r0, r1]) rfl ⟨HRes.mk HY.out (OwnH.nil _ _), (kb.setCell (Nat.le_refl _) _).setCell (Nat.le_refl _) _⟩
      · have HY : Hid (setC l ⟨name, value⟩ = 0 ∧ setL l ⟨name, value⟩ = setGo ⟨name, value⟩ false l) := S3 h1 h2
        clear S1 S2 S3 h1
        generalize setGo ⟨name, value⟩ false l = M at *
        have gM : ¬ (20 : Int) < (M.length : Int) := by omega
        go_enter Tryd.func19, Tryd.ntmps19
        go_wp2_with fail
        refine (HA.out _ ((Below.refl _ _).alloc (Nat.le_refl _) _)).mono ?_
        rintro e w1 ⟨rfl, hb1⟩
        rw [World.size_alloc] at hb1
        have HB1 : Hid (Below (w.heap.size + 1) (w.alloc (.cells #[.int .i64 0, .slice none 0 0] 31)) w1) := hb1
        have hz1 : w.heap.size + 1 ≤ w1.heap.size := by have := hb1.size; rwa [World.size_alloc] at this
        clear hb1 HA
        go_wp2_with fail
        refine (HF.out _).mono ?_
        rintro e w2 ⟨rfl, hb2⟩
        obtain ⟨hz2, l0, l1, kb2⟩ := hdr_room hb2
        have HB2 : Hid (Below (w.heap.size + 1) (w.alloc (.cells #[.int .i64 0, .slice none 0 0] 31)) w2) := HB1.out.trans (kb2.mono hz1)
        have hz2' : w.heap.size + 1 ≤ w2.heap.size := Nat.le_trans hz1 kb2.size
        clear hb2 kb2 HB1 HF
        go_wp2_with fail
        refine (HG.out _ (heads_room HB2.out).2.2.2.2.2).mono ?_
        rintro e w3 ⟨⟨v, rfl, ho⟩, hb3⟩
        obtain ⟨va, vc, hv, _⟩ := ho.at
        subst hv
        obtain ⟨hz3, q0, q1, f0, f1, kb⟩ := heads_room (HB2.out.trans (hb3.mono hz2'))
        have KO : Hid (OwnH w3 (w.heap.size + 1) (.slice va M.length vc) M) := ho.lower hz2'
        clear ho hb3 HB2 HG
        generalize M.length = mn at *
        obtain ⟨r0, r1⟩ := two_set (v0 := .int .i64 0) (v1 := .slice va mn vc) q0 q1
        go_wp2_with fail
        exact bodyPost_ret (v := .agg #[.int .i64 0, .slice va mn vc]) (by simp [results, Tryd.results19, go_sem, r0, r1]) rfl ⟨HRes.mk HY.out ((ownH_set (ownH_set KO.out (Nat.lt_succ_self _)) (Nat.lt_succ_self _)).lower (Nat.le_succ _)), (kb.setCell (Nat.le_refl _) _).setCell (Nat.le_refl _) _⟩
    · have HY : Hid (setC l ⟨name, value⟩ = faultH ⟨name, value⟩ ∧ setL l ⟨name, value⟩ = []) := S1 h1
      clear S1 S2 S3 HG
      generalize faultH ⟨name, value⟩ = ff at *
      go_enter Tryd.func19, Tryd.ntmps19
      go_wp2_with fail
      refine (HA.out _ ((Below.refl _ _).alloc (Nat.le_refl _) _)).mono ?_
      rintro e w1 ⟨rfl, hb1⟩
      rw [World.size_alloc] at hb1
      have HB1 : Hid (Below (w.heap.size + 1) (w.alloc (.cells #[.int .i64 0, .slice none 0 0] 31)) w1) := hb1
      have hz1 : w.heap.size + 1 ≤ w1.heap.size := by have := hb1.size; rwa [World.size_alloc] at this
      clear hb1 HA
      go_wp2_with fail
      refine (HF.out _).mono ?_
      rintro e w2 ⟨rfl, hb2⟩
      obtain ⟨hz2, l0, l1, kb2⟩ := hdr_room hb2
      obtain ⟨hz3, q0, q1, f0, f1, kb⟩ := heads_room (HB1.out.trans (kb2.mono hz1))
      obtain ⟨r0, r1⟩ := two_set (v0 := .int .i64 ff) (v1 := .slice none 0 0) q0 q1
      clear hb2 kb2 HB1 HF
      go_wp2_with fail
      exact bodyPost_ret (v := .agg #[.int .i64 ff, .slice none 0 0]) (by simp [results, Tryd.results19, go_sem, r0, r1]) rfl ⟨HRes.mk HY.out (OwnH.nil _ _), (kb.setCell (Nat.le_refl _) _).setCell (Nat.le_refl _) _⟩
  · have HY : Hid (setC l ⟨name, value⟩ = askC l name ∧ setL l ⟨name, value⟩ = []) := set_ask (h := ⟨name, value⟩) h0
    clear hi HF
    generalize askC l name = fc at *
    generalize l.length = n at *
    go_enter Tryd.func19, Tryd.ntmps19
    go_wp2_with fail
    refine (HA.out _ ((Below.refl _ _).alloc (Nat.le_refl _) _)).mono ?_
    rintro e w1 ⟨rfl, hb1⟩
    rw [World.size_alloc] at hb1
    obtain ⟨hz2, q0, q1, f0, f1, kb⟩ := heads_room hb1
    obtain ⟨r0, r1⟩ := two_set (v0 := .int .i64 fc) (v1 := .slice none 0 0) q0 q1
    clear hb1 HA
    go_wp2_with fail
    exact bodyPost_ret (v := .agg #[.int .i64 fc, .slice none 0 0]) (by simp [results, Tryd.results19, go_sem, r0, r1]) rfl ⟨HRes.mk HY.out (OwnH.nil _ _), (kb.setCell (Nat.le_refl _) _).setCell (Nat.le_refl _) _⟩
end Go.Proofs.YthlenlijdlfdeaaDoor
