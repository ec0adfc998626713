/-
  What DropHeader and its model answer.
-/
import Derived.Test.YthlenlijdlfdeaaDoorHPlaces
namespace Go.Proofs.YthlenlijdlfdeaaDoor
open Go.ChangeShapes Go.WideShapes Go.ChangeAt Go.RowKit Go.Sort
/-- A result: a code and head lines in memory of the call's own. -/
def HRes (c : Int) (L : List Hdr) (base : Nat) (e : Ending) (w : World) : Prop := ∃ v, e = .returned (.agg #[.int .i64 c, v]) ∧ OwnH w base v L
theorem HRes.mk {c d : Int} {L M : List Hdr} {base : Nat} {w : World} {v : Value} (h : c = d ∧ L = M) (ho : OwnH w base v M) : HRes c L base (.returned (.agg #[.int .i64 d, v])) w := ⟨v, by rw [h.1], by rw [h.2]; exact ho⟩
theorem ownH_set {w : World} {base b o : Nat} {v u : Value} {l : List Hdr} (h : OwnH w base v l) (hb : b < base) : OwnH (w.setCell ⟨b, o, none⟩ u) base v l := by
  obtain ⟨h1, h2⟩ := h
  refine ⟨h1, ?_⟩
  rcases h2 with h2 | ⟨g, c, cur, e, hg, hh, hrest⟩
  · exact .inl h2
  · exact .inr ⟨g, c, cur, e, hg, by rw [RowKit.Below.heap_setCell _ _ _ _ (by show g ≠ b; omega)]; exact hh, hrest⟩
theorem heads_room {w w1 : World} (hb : Below (w.heap.size + 1) (w.alloc (.cells #[.int .i64 0, .slice none 0 0] 31)) w1) :
    w.heap.size < w1.heap.size ∧ w1.cell? ⟨w.heap.size, 0, none⟩ = some (.int .i64 0) ∧ w1.cell? ⟨w.heap.size, 1, none⟩ = some (.slice none 0 0) ∧ w1.frozen? ⟨w.heap.size, 0, none⟩ = false ∧ w1.frozen? ⟨w.heap.size, 1, none⟩ = false ∧ Below w.heap.size w w1 := by
  have hz := hb.size
  simp only [World.size_alloc] at hz
  exact ⟨hz, by rw [hb.cell (p := ⟨w.heap.size, 0, none⟩) (Nat.lt_succ_self _)]; simp, by rw [hb.cell (p := ⟨w.heap.size, 1, none⟩) (Nat.lt_succ_self _)]; simp, by rw [hb.frozen (p := ⟨w.heap.size, 0, none⟩) (Nat.lt_succ_self _)]; simp, by rw [hb.frozen (p := ⟨w.heap.size, 1, none⟩) (Nat.lt_succ_self _)]; simp, ((Below.refl _ _).alloc (Nat.le_refl _) _).trans (hb.mono (Nat.le_succ _))⟩
set_option maxRecDepth 100000 in
set_option maxHeartbeats 8000000 in
theorem l4Drop_any (w : World) (a : Option Addr) (cap : Nat) (l : List Hdr) (name : ByteArray) (h20 : l.length ≤ 20) (hz : ∀ (i : Nat) r, l[i]? = some r → r.name.size ≤ 64) (hnm : name.size ≤ 64) (hi : HdsIn w a l) :
    Calls Tryd.prog 56 #[.slice a l.length cap, .string name] w fun e w' => KeptRes w.heap.size (dropH (lowS name) l) e w' ∧ Below w.heap.size w w' := by
  have HI : Hid (HdsIn w a l) := hi
  have HZ : Hid (∀ (i : Nat) r, l[i]? = some r → r.name.size ≤ 64) := hz
  clear hi hz
  generalize hn : l.length = n at *
  have HN : Hid (l.length = n) := hn
  clear hn
  go_enter Tryd.func56, Tryd.ntmps56
  go_wp2_with fail
  go_loopw [5, 6] (fun v i wr => ∃ (k : Nat), k ≤ n ∧ i = .int .i64 k ∧ OwnH wr w.heap.size v (dropH (lowS name) (l.take k)) ∧ Below w.heap.size w wr) (fun _ i _ => n - (intOf i).toNat)
  case atStart => exact ⟨0, Nat.zero_le _, rfl, OwnH.made0 w w.heap.size (Nat.le_refl _), (Below.refl _ _).alloc (Nat.le_refl _) _⟩
  case round =>
    obtain ⟨k, hk, rfl, ho, hb⟩ := hrel
    have HO : Hid (OwnH wr w.heap.size u5 (dropH (lowS name) (l.take k))) := ho
    have hzw := hb.size
    clear ho
    by_cases hlt : k < n
    · obtain ⟨r, hr⟩ : ∃ r, l[k]? = some r := ⟨l[k]'(by have := HN.out; omega), List.getElem?_eq_getElem _⟩
      obtain ⟨b, off, rfl, hat⟩ := HI.out.ok hr
      obtain ⟨p1, p3⟩ := (hat.keep hb) k r hr
      have z1 := HZ.out k r hr
      have HK : Hid (l.take (k + 1) = l.take k ++ [r]) := take_hdr hr
      have hlk : (dropH (lowS name) (l.take k)).length ≤ 20 := Nat.le_trans (dropH_len _ _) (by rw [List.length_take]; omega)
      have gk : (k : Int) < n := by omega
      clear hr hat HI HZ
      have KY := @dropH_yes (lowS name) r (l.take k)
      have KN := @dropH_no (lowS name) r (l.take k)
      obtain ⟨rn, rv⟩ := r
      simp only at p1 p3 z1 KY KN
      have SA := fun w => l4Alike_any rn name w (by omega) (by omega)
      by_cases he : lowS rn = lowS name
      · have HX : Hid (dropH (lowS name) (l.take (k + 1)) = dropH (lowS name) (l.take k)) := by show _ = _; rw [HK.out]; exact KY he
        have HSA : Hid (∀ w, Calls Tryd.prog 87 #[.string rn, .string name] w fun e w' => e = .returned (.bool true) ∧ Below w.heap.size w w') := by
          rw [show decide (lowS rn = lowS name) = true from by simpa using he] at SA
          exact SA
        clear SA KY KN HK he
        generalize dropH (lowS name) (l.take k) = L at *
        go_wp2_with fail
        refine (HSA.out _).mono ?_
        rintro e w2 ⟨rfl, hb2⟩
        have HO2 : Hid (OwnH w2 w.heap.size u5 L) := HO.out.below hb2
        have HB2 : Hid (Below w.heap.size w w2) := hb.trans (hb2.mono hb.size)
        clear hb2 hb HO p1 p3
        go_wp2_with fail
        go_roundw
        case rel => exact ⟨k + 1, by omega, by go_num, by rw [HX.out]; exact HO2.out, HB2.out⟩
        case measure => simp [intOf]; omega
      · have HX : Hid (dropH (lowS name) (l.take (k + 1)) = dropH (lowS name) (l.take k) ++ [⟨rn, rv⟩]) := by show _ = _; rw [HK.out]; exact KN he
        have HSA : Hid (∀ w, Calls Tryd.prog 87 #[.string rn, .string name] w fun e w' => e = .returned (.bool false) ∧ Below w.heap.size w w') := by
          rw [show decide (lowS rn = lowS name) = false from by simpa using he] at SA
          exact SA
        clear SA KY KN HK he
        generalize dropH (lowS name) (l.take k) = L at *
        go_wp2_with fail
        refine (HSA.out _).mono ?_
        rintro e w2 ⟨rfl, hb2⟩
        have HO2 : Hid (OwnH w2 w.heap.size u5 L) := HO.out.below hb2
        have HB2 : Hid (Below w.heap.size w w2) := hb.trans (hb2.mono hb.size)
        have p1 := hkeep hb2 p1
        have p3 := hkeep hb2 p3
        have hz2 := HB2.out.size
        clear hb2 hb HO
        go_wp2_with (at_builtin; refine wpList_append_hdr _ rfl (.tmp 22) (.tmp 27) rfl w.heap.size _ L rn rv rfl rfl HO2.out (by omega) hz2 ?_; intro v4 w4 HO4 hb4 hz4 hk4)
        go_roundw
        case rel => exact ⟨k + 1, by omega, by go_num, by rw [HX.out]; exact HO4, HB2.out.trans hb4⟩
        case measure => simp [intOf]; omega
    · have HX : Hid (dropH (lowS name) l = dropH (lowS name) (l.take k)) := by
        show _ = _
        rw [List.take_of_length_le (by have := HN.out; omega)]
      go_wp2_with fail
      go_ret
      exact ⟨KeptRes.mk HX.out HO.out, hb⟩
theorem dropL_bad {l : List Hdr} {name : ByteArray} (h : askC l name ≠ 0) : dropL l name = [] := by unfold dropL; rw [if_neg h]
theorem dropL_ok {l : List Hdr} {name : ByteArray} (h : askC l name = 0) : dropL l name = dropH (lowS name) l := by unfold dropL; rw [if_pos h]
theorem dropL_len (l : List Hdr) (name : ByteArray) : (dropL l name).length ≤ 20 := by
  by_cases h : askC l name = 0
  · rw [dropL_ok h]
    have := (headsC_zero (askC_zero h).1).1
    exact Nat.le_trans (dropH_len _ _) this
  · rw [dropL_bad h]; simp
theorem asked {l : List Hdr} {name : ByteArray} (h : askC l name = 0) : l.length ≤ 20 ∧ (∀ (i : Nat) r, l[i]? = some r → r.name.size ≤ 64 ∧ r.value.size ≤ 200) ∧ name.size ≤ 64 := by
  obtain ⟨h0, hw⟩ := askC_zero h
  obtain ⟨h20, hf⟩ := headsC_zero h0
  exact ⟨h20, fun i r hr => by obtain ⟨x1, x2, _⟩ := faultH_zero (hf i r hr); exact ⟨hword_max x1, x2⟩, hword_max hw⟩
set_option maxHeartbeats 2000000 in
theorem specDrop_any (w : World) (a : Option Addr) (cap : Nat) (l : List Hdr) (name : ByteArray) (hl : l.length ≤ 1048576) (hi : HdsIn w a l) :
    Calls Tryd.prog 20 #[.slice a l.length cap, .string name] w fun e w' => HRes (askC l name) (dropL l name) w.heap.size e w' ∧ Below w.heap.size w w' := by
  have HA : Hid (∀ W, Below w.heap.size w W → Calls Tryd.prog 54 #[.slice a l.length cap, .string name] W fun e w' => e = .returned (.int .i64 (askC l name)) ∧ Below W.heap.size W w') := fun W hb => l4Ask_any W a cap l name hl (hi.keep hb)
  by_cases h0 : askC l name = 0
  · obtain ⟨h20, hz, hnm⟩ := asked h0
    have HD : Hid (∀ W, Below w.heap.size w W → Calls Tryd.prog 56 #[.slice a l.length cap, .string name] W fun e w' => KeptRes W.heap.size (dropL l name) e w' ∧ Below W.heap.size W w') := fun W hb => by
      rw [dropL_ok h0]
      exact l4Drop_any W a cap l name h20 (fun i r hr => (hz i r hr).1) hnm (hi.keep hb)
    rw [h0] at HA ⊢
    clear hi hz h0 h20 hnm
    generalize dropL l name = L at *
    generalize l.length = n at *
    go_enter Tryd.func20, Tryd.ntmps20
    go_wp2_with fail
    refine (HA.out _ ((Below.refl _ _).alloc (Nat.le_refl _) _)).mono ?_
    rintro e w1 ⟨rfl, hb1⟩
    rw [World.size_alloc] at hb1
    have HB1 : Hid (Below (w.heap.size + 1) (w.alloc (.cells #[.int .i64 0, .slice none 0 0] 31)) w1) := hb1
    have hz1 : w.heap.size + 1 ≤ w1.heap.size := by have := hb1.size; rwa [World.size_alloc] at this
    clear hb1 HA
    go_wp2_with fail
    refine (HD.out _ (heads_room HB1.out).2.2.2.2.2).mono ?_
    rintro e w2 ⟨⟨v, rfl, ho⟩, hb2⟩
    obtain ⟨hz2, q0, q1, f0, f1, kb⟩ := heads_room (HB1.out.trans (hb2.mono hz1))
    obtain ⟨va, vc, hv, _⟩ := ho.at
    generalize hn : L.length = vn at hv
    subst hv
    obtain ⟨r0, r1⟩ := two_set (v0 := .int .i64 0) (v1 := .slice va vn vc) q0 q1
    have KO : Hid (OwnH w2 (w.heap.size + 1) (.slice va vn vc) L) := ho.lower hz1
    clear hb2 HB1 HD ho hn
    go_wp2_with fail
    exact bodyPost_ret (v := .agg #[.int .i64 0, .slice va vn vc]) (by simp [results, Tryd.results20, go_sem, r0, r1]) rfl ⟨HRes.mk ⟨rfl, rfl⟩ ((ownH_set (ownH_set KO.out (Nat.lt_succ_self _)) (Nat.lt_succ_self _)).lower (Nat.le_succ _)), (kb.setCell (Nat.le_refl _) _).setCell (Nat.le_refl _) _⟩
  · rw [dropL_bad h0]
    clear hi
    generalize askC l name = fc at *
    generalize l.length = n at *
    go_enter Tryd.func20, Tryd.ntmps20
    go_wp2_with fail
    refine (HA.out _ ((Below.refl _ _).alloc (Nat.le_refl _) _)).mono ?_
    rintro e w1 ⟨rfl, hb1⟩
    rw [World.size_alloc] at hb1
    obtain ⟨hz2, q0, q1, f0, f1, kb⟩ := heads_room hb1
    obtain ⟨r0, r1⟩ := two_set (v0 := .int .i64 fc) (v1 := .slice none 0 0) q0 q1
    clear hb1 HA
    go_wp2_with fail
    exact bodyPost_ret (v := .agg #[.int .i64 fc, .slice none 0 0]) (by simp [results, Tryd.results20, go_sem, r0, r1]) rfl ⟨HRes.mk ⟨rfl, rfl⟩ (OwnH.nil _ _), (kb.setCell (Nat.le_refl _) _).setCell (Nat.le_refl _) _⟩
theorem keptH_drop (x : ByteArray) (l : List Hdr) : keptH (fun y => if y = x then none else firstAt y l) l = dropH x l := by
  unfold keptH dropH
  refine List.filter_congr fun r hr => ?_
  by_cases e : lowS r.name = x
  · simp [e]
  · simp only [e, not_false_eq_true, decide_true]
    cases c : firstAt (lowS r.name) l with
    | some i => rfl
    | none => exact absurd rfl (firstAt_none c r hr)
set_option maxRecDepth 100000 in
set_option maxHeartbeats 4000000 in
theorem implDrop_any (w : World) (a : Option Addr) (cap : Nat) (l : List Hdr) (name : ByteArray) (hl : l.length ≤ 1048576) (hset : SetIs w) (hi : HdsIn w a l) :
    Calls Tryd.prog 14 #[.slice a l.length cap, .string name] w fun e w' => HRes (askC l name) (dropL l name) w.heap.size e w' ∧ Below w.heap.size w w' := by
  have HA : Hid (∀ W, Below w.heap.size w W → Calls Tryd.prog 39 #[.slice a l.length cap, .string name] W fun e w' => e = .returned (.int .i64 (askC l name)) ∧ Below W.heap.size W w') := fun W hb => namedFault_any W a cap l name hl (hset.below hb) (hi.keep hb)
  by_cases h0 : askC l name = 0
  · obtain ⟨h20, hz, hnm⟩ := asked h0
    have HP : Hid (∀ W, Below w.heap.size w W → Calls Tryd.prog 42 #[.slice a l.length cap] W fun e w' => e = .returned (.map (some W.heap.size)) ∧ NamesMap w' W.heap.size 20 (fun x => firstAt x l) ∧ Below W.heap.size W w') := fun W hb => firstPlaces_any W a cap l h20 (fun i r hr => (hz i r hr).1) (hi.keep hb)
    have HS : Hid (∀ W, Calls Tryd.prog 43 #[.string name] W fun e w' => e = .returned (.string (lowS name)) ∧ Below W.heap.size W w') := fun W => smallName_any name W (by omega)
    have HK : Hid (∀ W B, Below w.heap.size w W → NamesMap W B 20 (fun y => if y = lowS name then none else firstAt y l) → Calls Tryd.prog 45 #[.slice a l.length cap, .map (some B)] W fun e w' => KeptRes W.heap.size (dropL l name) e w' ∧ Below W.heap.size W w') := fun W B hb hm => by
      rw [dropL_ok h0, ← keptH_drop]
      exact linesNamed_any W a cap l B _ h20 hz (hi.keep hb) hm
    have sz := lowS_size name
    rw [h0] at HA ⊢
    clear hi hz h0 h20 hset
    generalize dropL l name = L at *
    generalize l.length = n at *
    generalize lowS name = q at *
    go_enter Tryd.func14, Tryd.ntmps14
    go_wp2_with fail
    refine (HA.out _ ((Below.refl _ _).alloc (Nat.le_refl _) _)).mono ?_
    rintro e w1 ⟨rfl, hb1⟩
    rw [World.size_alloc] at hb1
    have HB1 : Hid (Below (w.heap.size + 1) (w.alloc (.cells #[.int .i64 0, .slice none 0 0] 31)) w1) := hb1
    have hz1 : w.heap.size + 1 ≤ w1.heap.size := by have := hb1.size; rwa [World.size_alloc] at this
    clear hb1 HA
    go_wp2_with fail
    refine (HP.out _ (heads_room HB1.out).2.2.2.2.2).mono ?_
    rintro e w2 ⟨rfl, hm2, hb2⟩
    have HB2 : Hid (Below (w.heap.size + 1) (w.alloc (.cells #[.int .i64 0, .slice none 0 0] 31)) w2) := HB1.out.trans (hb2.mono hz1)
    have hz2 : w.heap.size + 1 ≤ w2.heap.size := Nat.le_trans hz1 hb2.size
    have HM2 : Hid (NamesMap w2 w1.heap.size 20 (fun x => firstAt x l)) := hm2
    clear hb2 HB1 hm2 HP
    generalize w1.heap.size = B at *
    clear w1
    go_wp2_with fail
    refine (HS.out _).mono ?_
    rintro e w3 ⟨rfl, hb3⟩
    have HB3 : Hid (Below (w.heap.size + 1) (w.alloc (.cells #[.int .i64 0, .slice none 0 0] 31)) w3) := HB2.out.trans (hb3.mono hz2)
    have hz3 : w.heap.size + 1 ≤ w3.heap.size := Nat.le_trans hz2 hb3.size
    have HM3 : Hid (NamesMap w3 B 20 (fun x => firstAt x l)) := HM2.out.below hb3
    clear hb3 HB2 HM2 HS hz2
    clear w2
    go_wp2_with (at_delete; refine wpList_del _ rfl _ _ rfl B 20 _ rfl HM3.out q rfl (by omega) (w.heap.size + 1) hz1 ?_; intro w4 HM4 hb4)
    have HB4 : Below (w.heap.size + 1) (w.alloc (.cells #[.int .i64 0, .slice none 0 0] 31)) w4 := HB3.out.trans hb4
    refine (HK.out _ _ (heads_room HB4).2.2.2.2.2 HM4).mono ?_
    rintro e w5 ⟨⟨v, rfl, ho⟩, hb5⟩
    have hz4 : w.heap.size + 1 ≤ w4.heap.size := by have := HB4.size; rwa [World.size_alloc] at this
    obtain ⟨hz5, q0, q1, f0, f1, kb⟩ := heads_room (HB4.trans (hb5.mono hz4))
    obtain ⟨va, vc, hv, _⟩ := ho.at
    generalize hn : L.length = vn at hv
    subst hv
    obtain ⟨r0, r1⟩ := two_set (v0 := .int .i64 0) (v1 := .slice va vn vc) q0 q1
    have KO : Hid (OwnH w5 (w.heap.size + 1) (.slice va vn vc) L) := ho.lower hz4
    clear hb5 HB4 HK ho hn HM4 HM3 HB3 hb4
    go_wp2_with fail
    exact bodyPost_ret (v := .agg #[.int .i64 0, .slice va vn vc]) (by simp [results, Tryd.results14, go_sem, r0, r1]) rfl ⟨HRes.mk ⟨rfl, rfl⟩ ((ownH_set (ownH_set KO.out (Nat.lt_succ_self _)) (Nat.lt_succ_self _)).lower (Nat.le_succ _)), (kb.setCell (Nat.le_refl _) _).setCell (Nat.le_refl _) _⟩
  · rw [dropL_bad h0]
    clear hi hset
    generalize askC l name = fc at *
    generalize l.length = n at *
    go_enter Tryd.func14, Tryd.ntmps14
    go_wp2_with fail
    refine (HA.out _ ((Below.refl _ _).alloc (Nat.le_refl _) _)).mono ?_
    rintro e w1 ⟨rfl, hb1⟩
    rw [World.size_alloc] at hb1
    obtain ⟨hz2, q0, q1, f0, f1, kb⟩ := heads_room hb1
    obtain ⟨r0, r1⟩ := two_set (v0 := .int .i64 fc) (v1 := .slice none 0 0) q0 q1
    clear hb1 HA
    go_wp2_with fail
    exact bodyPost_ret (v := .agg #[.int .i64 fc, .slice none 0 0]) (by simp [results, Tryd.results14, go_sem, r0, r1]) rfl ⟨HRes.mk ⟨rfl, rfl⟩ (OwnH.nil _ _), (kb.setCell (Nat.le_refl _) _).setCell (Nat.le_refl _) _⟩
end Go.Proofs.YthlenlijdlfdeaaDoor
