/-
  What SetHeader answers, at every argument.
-/
import Derived.Test.YthlenlijdlfdeaaDoorHSetImpl
namespace Go.Proofs.YthlenlijdlfdeaaDoor
open Go.ChangeShapes Go.WideShapes Go.ChangeAt Go.RowKit Go.Sort
set_option maxRecDepth 100000 in
set_option maxHeartbeats 4000000 in
theorem implSet_any (w : World) (a : Option Addr) (cap : Nat) (l : List Hdr) (name value : ByteArray) (hl : l.length ≤ 1048576) (hnz : name.size ≤ 1048576) (hv : value.size ≤ 1048576) (hset : SetIs w) (hi : HdsIn w a l) :
    Calls Tryd.prog 13 #[.slice a l.length cap, .string name, .string value] w fun e w' => HRes (setC l ⟨name, value⟩) (setL l ⟨name, value⟩) w.heap.size e w' ∧ Below w.heap.size w w' := by
  have HA : Hid (∀ W, Below w.heap.size w W → Calls Tryd.prog 39 #[.slice a l.length cap, .string name] W fun e w' => e = .returned (.int .i64 (askC l name)) ∧ Below W.heap.size W w') := fun W hb => namedFault_any W a cap l name hl (hset.below hb) (hi.keep hb)
  have HLF : Hid (∀ W, Below w.heap.size w W → Calls Tryd.prog 41 #[.agg #[.string name, .string value]] W fun e w' => e = .returned (.int .i64 (faultH ⟨name, value⟩)) ∧ Below W.heap.size W w') := fun W hb => implLine_any ⟨name, value⟩ W (hset.below hb)
  have HLO : Hid (∀ W, Calls Tryd.prog 40 #[.string name, .string value] W fun e w' => e = .returned (.agg #[.string name, .string value]) ∧ Below W.heap.size W w') := fun W => lineOf_any name value W hnz hv
  by_cases h0 : askC l name = 0
  · by_cases h1 : faultH ⟨name, value⟩ = 0
    · cases hf : firstAt (lowS name) l with
      | some i => exact implSet_found w a cap l name value i h0 h1 hf hv hset hi
      | none =>
        by_cases hlt : l.length < 20
        · exact implSet_new w a cap l name value h0 h1 hf hlt hv hset hi
        · obtain ⟨h20, hz, hnm⟩ := asked h0
          have hs : setGo ⟨name, value⟩ false l = l ++ [⟨name, value⟩] := by
            rw [setGo_first]
            simp only [hf]
            rw [dropH_all hf]
          have HY : Hid (setC l ⟨name, value⟩ = 2 ∧ setL l ⟨name, value⟩ = []) := set_many (h := ⟨name, value⟩) h0 h1 (by rw [hs]; simp; omega)
          have HP : Hid (∀ W, Below w.heap.size w W → Calls Tryd.prog 42 #[.slice a l.length cap] W fun e w' => e = .returned (.map (some W.heap.size)) ∧ NamesMap w' W.heap.size 20 (fun x => firstAt x l) ∧ Below W.heap.size W w') := fun W hb => firstPlaces_any W a cap l h20 (fun i r hr => (hz i r hr).1) (hi.keep hb)
          have HS : Hid (∀ W, Calls Tryd.prog 43 #[.string name] W fun e w' => e = .returned (.string (lowS name)) ∧ Below W.heap.size W w') := fun W => smallName_any name W (by omega)
          have HFA : Hid (firstAt (lowS name) l = none) := hf
          have sz := lowS_size name
          rw [h0] at HA
          rw [h1] at HLF
          clear hi hz h0 h1 hset hf hs
          generalize lowS name = q at *
          have hn20 : l.length = 20 := by omega
          rw [hn20] at HA HP ⊢
          clear hn20 hlt h20 hl
          go_enter Tryd.func13, Tryd.ntmps13
          go_wp2_with fail
          refine (HA.out _ ((Below.refl _ _).alloc (Nat.le_refl _) _)).mono ?_
          rintro e w1 ⟨rfl, hb1⟩
          rw [World.size_alloc] at hb1
          have HB1 : Hid (Below (w.heap.size + 1) (w.alloc (.cells #[.int .i64 0, .slice none 0 0] 31)) w1) := hb1
          have hz1 : w.heap.size + 1 ≤ w1.heap.size := by have := hb1.size; rwa [World.size_alloc] at this
          clear hb1 HA
          go_wp2_with fail
          refine (HLO.out _).mono ?_
          rintro e w2 ⟨rfl, hb2⟩
          have HB2 : Hid (Below (w.heap.size + 1) (w.alloc (.cells #[.int .i64 0, .slice none 0 0] 31)) w2) := HB1.out.trans (hb2.mono hz1)
          have hz2 : w.heap.size + 1 ≤ w2.heap.size := Nat.le_trans hz1 hb2.size
          clear hb2 HB1 HLO hz1
          go_wp2_with fail
          refine (HLF.out _ ((heads_room HB2.out).2.2.2.2.2.alloc (by omega) _)).mono ?_
          rintro e w3 ⟨rfl, hb3⟩
          obtain ⟨hlt3, l0, l1, kb3⟩ := hdr_room hb3
          have HB3 : Hid (Below (w.heap.size + 1) (w.alloc (.cells #[.int .i64 0, .slice none 0 0] 31)) w3) := HB2.out.trans (kb3.mono hz2)
          have hz3' : w.heap.size + 1 ≤ w3.heap.size := Nat.le_trans hz2 kb3.size
          clear hb3 kb3 HB2 HLF hz2
          go_wp2_with fail
          refine (HP.out _ (heads_room HB3.out).2.2.2.2.2).mono ?_
          rintro e w4 ⟨rfl, hm4, hb4⟩
          have HB4 : Hid (Below (w.heap.size + 1) (w.alloc (.cells #[.int .i64 0, .slice none 0 0] 31)) w4) := HB3.out.trans (hb4.mono hz3')
          have hz4 : w.heap.size + 1 ≤ w4.heap.size := Nat.le_trans hz3' hb4.size
          have HM4 : Hid (NamesMap w4 w3.heap.size 20 (fun x => firstAt x l)) := hm4
          clear hb4 HB3 hm4 HP l0 l1
          generalize w3.heap.size = BM at *
          try clear w3
          go_wp2_with fail
          refine (HS.out _).mono ?_
          rintro e w5 ⟨rfl, hb5⟩
          have HM5 : Hid (NamesMap w5 BM 20 (fun x => firstAt x l)) := HM4.out.below hb5
          obtain ⟨hz5, q0, q1, f0, f1, kb⟩ := heads_room (HB4.out.trans (hb5.mono hz4))
          obtain ⟨r0, r1⟩ := two_set (v0 := .int .i64 2) (v1 := .slice none 0 0) q0 q1
          clear hb5 HB4 HM4 hz4
          try clear w4
          go_wp2_with (at_lookup; refine wpList_look_none _ rfl _ _ rfl BM 20 _ rfl HM5.out q rfl (by omega) HFA.out ?_)
          exact bodyPost_ret (v := .agg #[.int .i64 2, .slice none 0 0]) (by simp [results, Tryd.results13, go_sem, r0, r1]) rfl ⟨HRes.mk HY.out (OwnH.nil _ _), (kb.setCell (Nat.le_refl _) _).setCell (Nat.le_refl _) _⟩
    · have HY : Hid (setC l ⟨name, value⟩ = faultH ⟨name, value⟩ ∧ setL l ⟨name, value⟩ = []) := set_line (h := ⟨name, value⟩) h0 h1
      rw [h0] at HA
      clear hi hset h0
      generalize faultH ⟨name, value⟩ = ff at *
      generalize l.length = n at *
      go_enter Tryd.func13, Tryd.ntmps13
      go_wp2_with fail
      refine (HA.out _ ((Below.refl _ _).alloc (Nat.le_refl _) _)).mono ?_
      rintro e w1 ⟨rfl, hb1⟩
      rw [World.size_alloc] at hb1
      have HB1 : Hid (Below (w.heap.size + 1) (w.alloc (.cells #[.int .i64 0, .slice none 0 0] 31)) w1) := hb1
      have hz1 : w.heap.size + 1 ≤ w1.heap.size := by have := hb1.size; rwa [World.size_alloc] at this
      clear hb1 HA
      go_wp2_with fail
      refine (HLO.out _).mono ?_
      rintro e w2 ⟨rfl, hb2⟩
      have HB2 : Hid (Below (w.heap.size + 1) (w.alloc (.cells #[.int .i64 0, .slice none 0 0] 31)) w2) := HB1.out.trans (hb2.mono hz1)
      have hz2 : w.heap.size + 1 ≤ w2.heap.size := Nat.le_trans hz1 hb2.size
      clear hb2 HB1 HLO hz1
      go_wp2_with fail
      refine (HLF.out _ ((heads_room HB2.out).2.2.2.2.2.alloc (by omega) _)).mono ?_
      rintro e w3 ⟨rfl, hb3⟩
      obtain ⟨hlt3, l0, l1, kb3⟩ := hdr_room hb3
      obtain ⟨hz3, q0, q1, f0, f1, kb⟩ := heads_room (HB2.out.trans (kb3.mono hz2))
      obtain ⟨r0, r1⟩ := two_set (v0 := .int .i64 ff) (v1 := .slice none 0 0) q0 q1
      clear hb3 kb3 HB2 HLF hz2
      go_wp2_with fail
      exact bodyPost_ret (v := .agg #[.int .i64 ff, .slice none 0 0]) (by simp [results, Tryd.results13, go_sem, r0, r1]) rfl ⟨HRes.mk HY.out (OwnH.nil _ _), (kb.setCell (Nat.le_refl _) _).setCell (Nat.le_refl _) _⟩
  · have HY : Hid (setC l ⟨name, value⟩ = askC l name ∧ setL l ⟨name, value⟩ = []) := set_ask (h := ⟨name, value⟩) h0
    clear hi hset HLF HLO
    generalize askC l name = fc at *
    generalize l.length = n at *
    go_enter Tryd.func13, Tryd.ntmps13
    go_wp2_with fail
    refine (HA.out _ ((Below.refl _ _).alloc (Nat.le_refl _) _)).mono ?_
    rintro e w1 ⟨rfl, hb1⟩
    rw [World.size_alloc] at hb1
    obtain ⟨hz2, q0, q1, f0, f1, kb⟩ := heads_room hb1
    obtain ⟨r0, r1⟩ := two_set (v0 := .int .i64 fc) (v1 := .slice none 0 0) q0 q1
    clear hb1 HA
    go_wp2_with fail
    exact bodyPost_ret (v := .agg #[.int .i64 fc, .slice none 0 0]) (by simp [results, Tryd.results13, go_sem, r0, r1]) rfl ⟨HRes.mk HY.out (OwnH.nil _ _), (kb.setCell (Nat.le_refl _) _).setCell (Nat.le_refl _) _⟩
end Go.Proofs.YthlenlijdlfdeaaDoor
