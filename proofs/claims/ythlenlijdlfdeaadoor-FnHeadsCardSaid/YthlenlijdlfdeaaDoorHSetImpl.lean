/-
  What SetHeader answers.
-/
import Derived.Test.YthlenlijdlfdeaaDoorHSetFns
namespace Go.Proofs.YthlenlijdlfdeaaDoor
open Go.ChangeShapes Go.WideShapes Go.ChangeAt Go.RowKit Go.Sort
set_option maxRecDepth 100000 in
set_option maxHeartbeats 16000000 in
theorem implSet_found (w : World) (a : Option Addr) (cap : Nat) (l : List Hdr) (name value : ByteArray) (at' : Nat) (h0 : askC l name = 0) (h1 : faultH ⟨name, value⟩ = 0) (hf : firstAt (lowS name) l = some at') (hv : value.size ≤ 1048576) (hset : SetIs w) (hi : HdsIn w a l) :
    Calls Tryd.prog 13 #[.slice a l.length cap, .string name, .string value] w fun e w' => HRes (setC l ⟨name, value⟩) (setL l ⟨name, value⟩) w.heap.size e w' ∧ Below w.heap.size w w' := by
  obtain ⟨h20, hz, hnm⟩ := asked h0
  have HA : Hid (∀ W, Below w.heap.size w W → Calls Tryd.prog 39 #[.slice a l.length cap, .string name] W fun e w' => e = .returned (.int .i64 0) ∧ Below W.heap.size W w') := fun W hb => by
    have := namedFault_any W a cap l name (by omega) (hset.below hb) (hi.keep hb)
    rw [h0] at this
    exact this
  have HLF : Hid (∀ W, Below w.heap.size w W → Calls Tryd.prog 41 #[.agg #[.string name, .string value]] W fun e w' => e = .returned (.int .i64 0) ∧ Below W.heap.size W w') := fun W hb => by
    have := implLine_any ⟨name, value⟩ W (hset.below hb)
    rw [h1] at this
    exact this
  have HP : Hid (∀ W, Below w.heap.size w W → Calls Tryd.prog 42 #[.slice a l.length cap] W fun e w' => e = .returned (.map (some W.heap.size)) ∧ NamesMap w' W.heap.size 20 (fun x => firstAt x l) ∧ Below W.heap.size W w') := fun W hb => firstPlaces_any W a cap l h20 (fun i r hr => (hz i r hr).1) (hi.keep hb)
  have HS : Hid (∀ W, Calls Tryd.prog 43 #[.string name] W fun e w' => e = .returned (.string (lowS name)) ∧ Below W.heap.size W w') := fun W => smallName_any name W (by omega)
  have HLO : Hid (∀ W, Calls Tryd.prog 40 #[.string name, .string value] W fun e w' => e = .returned (.agg #[.string name, .string value]) ∧ Below W.heap.size W w') := fun W => lineOf_any name value W (by omega) (by omega)
  have HLN : Hid (∀ W BM, Below (w.heap.size + 1) (w.alloc (.cells #[.int .i64 0, .slice none 0 0] 31)) W → NamesMap W BM 20 (fun y => if y = lowS name then none else firstAt y l) → Calls Tryd.prog 45 #[.slice a l.length cap, .map (some BM)] W fun e w' => KeptRes W.heap.size (dropH (lowS name) l) e w' ∧ Below W.heap.size W w') := fun W BM hb hm => by
    rw [← keptH_drop]
    exact linesNamed_any W a cap l BM _ h20 hz (hi.keep (heads_room hb).2.2.2.2.2) hm
  have hDl : (dropH (lowS name) l).length ≤ 20 := Nat.le_trans (dropH_len _ _) h20
  have HINS : Hid (∀ W la lc vb, OwnH W (w.heap.size + 1) (.slice la (dropH (lowS name) l).length lc) (dropH (lowS name) l) → w.heap.size + 1 ≤ W.heap.size → W.heap[vb]? = some (.cells #[.string name, .string value] 56 (0, 0)) → (∀ g, (Value.slice la (dropH (lowS name) l).length lc).ownBlock = some g → vb ≠ g) →
      Calls Tryd.prog 44 #[.slice la (dropH (lowS name) l).length lc, .int .i64 (at' : Int), .slice (some ⟨vb, 0, none⟩) 1 1] W fun e w' => KeptRes (w.heap.size + 1) ((dropH (lowS name) l).take at' ++ [⟨name, value⟩] ++ (dropH (lowS name) l).drop at') e w' ∧ Below (w.heap.size + 1) W w') := fun W la lc vb ho hbs hvb hne => insert_any W (w.heap.size + 1) la lc (dropH (lowS name) l) at' name value vb _ ho hbs (by omega) (first_le hf) hvb hne
  have HY : Hid (setC l ⟨name, value⟩ = 0 ∧ setL l ⟨name, value⟩ = (dropH (lowS name) l).take at' ++ [⟨name, value⟩] ++ (dropH (lowS name) l).drop at') := by
    have hs : setGo ⟨name, value⟩ false l = (dropH (lowS name) l).take at' ++ [⟨name, value⟩] ++ (dropH (lowS name) l).drop at' := by
      rw [setGo_first]
      simp only [hf]
    have hle : ¬ 20 < (setGo ⟨name, value⟩ false l).length := by
      have h2 := dropH_lt hf
      have h3 := first_le hf
      rw [hs]
      simp only [List.length_append, List.length_take, List.length_drop, List.length_cons, List.length_nil]
      omega
    have := set_ok (h := ⟨name, value⟩) h0 h1 hle
    rw [hs] at this
    exact this
  have HFA : Hid (firstAt (lowS name) l = some at') := hf
  have sz := lowS_size name
  clear hi hz h0 h1 hset hf hDl
  generalize (dropH (lowS name) l).take at' ++ [⟨name, value⟩] ++ (dropH (lowS name) l).drop at' = RES at *
  generalize dropH (lowS name) l = L at *
  generalize hLn : L.length = ln at *
  have HLn : Hid (L.length = ln) := hLn
  generalize hVn : RES.length = vn at *
  have HVn : Hid (RES.length = vn) := hVn
  clear hLn hVn
  generalize lowS name = q at *
  generalize l.length = n at *
  go_enter Tryd.func13, Tryd.ntmps13
  go_wp2_with fail
  refine (HA.out _ ((Below.refl _ _).alloc (Nat.le_refl _) _)).mono ?_
  rintro e w1 ⟨rfl, hb1⟩
  rw [World.size_alloc] at hb1
  have HB1 : Hid (Below (w.heap.size + 1) (w.alloc (.cells #[.int .i64 0, .slice none 0 0] 31)) w1) := hb1
  have hz1 : w.heap.size + 1 ≤ w1.heap.size := by have := hb1.size; rwa [World.size_alloc] at this
  clear hb1 HA
  go_wp2_with fail
  refine (HLO.out _).mono ?_
  rintro e w2 ⟨rfl, hb2⟩
  have HB2 : Hid (Below (w.heap.size + 1) (w.alloc (.cells #[.int .i64 0, .slice none 0 0] 31)) w2) := HB1.out.trans (hb2.mono hz1)
  have hz2 : w.heap.size + 1 ≤ w2.heap.size := Nat.le_trans hz1 hb2.size
  clear hb2 HB1 HLO hz1
  go_wp2_with fail
  refine (HLF.out _ ((heads_room HB2.out).2.2.2.2.2.alloc (by omega) _)).mono ?_
  rintro e w3 ⟨rfl, hb3⟩
  obtain ⟨hlt3, l0, l1, kb3⟩ := hdr_room hb3
  have HB3 : Hid (Below (w.heap.size + 1) (w.alloc (.cells #[.int .i64 0, .slice none 0 0] 31)) w3) := HB2.out.trans (kb3.mono hz2)
  have hz3' : w.heap.size + 1 ≤ w3.heap.size := Nat.le_trans hz2 kb3.size
  clear hb3 kb3 HB2 HLF hz2
  generalize w2.heap.size = BL at *
  try clear w2
  go_wp2_with fail
  refine (HP.out _ (heads_room HB3.out).2.2.2.2.2).mono ?_
  rintro e w4 ⟨rfl, hm4, hb4⟩
  have HB4 : Hid (Below (w.heap.size + 1) (w.alloc (.cells #[.int .i64 0, .slice none 0 0] 31)) w4) := HB3.out.trans (hb4.mono hz3')
  have hz4 : w.heap.size + 1 ≤ w4.heap.size := Nat.le_trans hz3' hb4.size
  have HM4 : Hid (NamesMap w4 w3.heap.size 20 (fun x => firstAt x l)) := hm4
  have l0 := hkeep hb4 l0
  have l1 := hkeep hb4 l1
  clear hb4 HB3 hm4 HP
  generalize w3.heap.size = BM at *
  try clear w3
  go_wp2_with fail
  refine (HS.out _).mono ?_
  rintro e w5 ⟨rfl, hb5⟩
  have HB5 : Hid (Below (w.heap.size + 1) (w.alloc (.cells #[.int .i64 0, .slice none 0 0] 31)) w5) := HB4.out.trans (hb5.mono hz4)
  have hz5 : w.heap.size + 1 ≤ w5.heap.size := Nat.le_trans hz4 hb5.size
  have HM5 : Hid (NamesMap w5 BM 20 (fun x => firstAt x l)) := HM4.out.below hb5
  have l0 := hkeep hb5 l0
  have l1 := hkeep hb5 l1
  clear hb5 HB4 HM4 hz4
  try clear w4
  go_wp2_with (at_lookup; refine wpList_look_some _ rfl _ _ rfl BM 20 _ rfl HM5.out q rfl (by omega) at' HFA.out ?_)
  refine (HS.out _).mono ?_
  rintro e w6 ⟨rfl, hb6⟩
  have HB6 : Hid (Below (w.heap.size + 1) (w.alloc (.cells #[.int .i64 0, .slice none 0 0] 31)) w6) := HB5.out.trans (hb6.mono hz5)
  have hz6 : w.heap.size + 1 ≤ w6.heap.size := Nat.le_trans hz5 hb6.size
  have HM6 : Hid (NamesMap w6 BM 20 (fun x => firstAt x l)) := HM5.out.below hb6
  have l0 := hkeep hb6 l0
  have l1 := hkeep hb6 l1
  have hBL : BL < BM := hlt3
  clear hb6 HB5 HM5 hz5 HS
  try clear w5
  go_wp2_with (at_delete; refine wpList_del _ rfl _ _ rfl BM 20 _ rfl HM6.out q rfl (by omega) BM (Nat.le_refl _) ?_; intro w7 HM7 hb7)
  have HB7 : Below (w.heap.size + 1) (w.alloc (.cells #[.int .i64 0, .slice none 0 0] 31)) w7 := HB6.out.trans (hb7.mono hz3')
  have hz7 : w.heap.size + 1 ≤ w7.heap.size := by have := HB7.size; rwa [World.size_alloc] at this
  have l0 : w7.cell? ⟨BL, 0, none⟩ = some (.string name) := by rw [hb7.cell (p := ⟨BL, 0, none⟩) hBL]; exact l0
  have l1 : w7.cell? ⟨BL, 1, none⟩ = some (.string value) := by rw [hb7.cell (p := ⟨BL, 1, none⟩) hBL]; exact l1
  clear HB6 HM6 hz6
  refine wp_region_any (by kernel_rfl) ?_
  change wpAny _ _ _ _ _ _ _ (World.drew _)
  obtain ⟨Z, hZ⟩ : ∃ X, X = w7.drew := ⟨_, rfl⟩
  rw [← hZ]
  have KZ : Below w7.heap.size w7 Z := by
    rw [hZ]
    exact (Below.refl _ _).drew
  have HMZ : Hid (NamesMap Z BM 20 (fun y => if y = q then none else firstAt y l)) := HM7.below KZ
  have HBZ : Hid (Below (w.heap.size + 1) (w.alloc (.cells #[.int .i64 0, .slice none 0 0] 31)) Z) := HB7.trans (KZ.mono hz7)
  have hzZ : w.heap.size + 1 ≤ Z.heap.size := Nat.le_trans hz7 KZ.size
  have l0 := hkeep KZ l0
  have l1 := hkeep KZ l1
  clear hZ KZ HM7 HB7 hb7
  refine wpAny_take (i := 0) (v := .slice a n cap) rfl (by kernel_rfl) (by kernel_rfl) (by kernel_rfl) (fun _ _ _ h => h) (Or.inl ⟨by kernel_rfl, ?_⟩) ?_
  · intro w; go_simp
  refine wpAny_take (i := 1) (v := .map (some BM)) rfl (by kernel_rfl) (by kernel_rfl) (by kernel_rfl) (fun _ _ _ h => h) (Or.inl ⟨by kernel_rfl, ?_⟩) ?_
  · intro w; go_simp
  refine wpAny_take (i := 3) (v := .int .i64 (at' : Int)) rfl (by kernel_rfl) (by kernel_rfl) (by kernel_rfl) (fun _ _ _ h => h) (Or.inl ⟨by kernel_rfl, ?_⟩) ?_
  · intro w; go_simp
  refine wpAny_ready (rs := [2, 4]) (by kernel_rfl) (by simp) ?_
  refine AllReady.cons rfl (fun K hK => ?_) (AllReady.cons rfl (fun K hK => ?_) AllReady.nil)
  · go_simp
    go_wp2_with fail
    refine (HLN.out _ _ HBZ.out HMZ.out).mono ?_
    rintro e wl ⟨⟨vl, rfl, hol⟩, hbl⟩
    obtain ⟨la, lc, hvl, _⟩ := hol.at
    rw [HLn.out] at hvl
    subst hvl
    refine hK _ _ ?_
    clear hK K
    have l0 := hkeep hbl l0
    have l1 := hkeep hbl l1
    refine wpAny_ready (rs := [4]) (by kernel_rfl) (by simp) ?_
    refine AllReady.cons rfl (fun K hK => ?_) AllReady.nil
    go_simp
    refine hK _ _ ?_
    clear hK K
    refine wpAny_ready (rs := [5]) (by kernel_rfl) (by simp) ?_
    refine AllReady.cons rfl (fun K hK => ?_) AllReady.nil
    go_simp
    refine hK _ _ ?_
    clear hK K
    have HBI : Below (w.heap.size + 1) (w.alloc (.cells #[.int .i64 0, .slice none 0 0] 31)) (wl.alloc (.cells #[.string name, .string value] 56)) := (HBZ.out.trans (hbl.mono hzZ)).alloc (Nat.le_trans hzZ hbl.size) _
    have HX := HINS.out (wl.alloc (.cells #[.string name, .string value] 56)) la lc wl.heap.size ((hol.lower hzZ).below ((Below.refl _ _).alloc (Nat.le_refl _) _)) (by have := hbl.size; simp; omega) (MapKept.heap_alloc wl _).1 (fun g hg => by have := ownH_lt hol g hg; omega)
    refine wpAny_ready (rs := [6]) (by kernel_rfl) (by simp) ?_
    refine AllReady.cons rfl (fun K hK => ?_) AllReady.nil
    go_simp
    go_wp2_with fail
    refine (HX).mono ?_
    rintro e wi ⟨⟨vi, rfl, hoi⟩, hbi⟩
    refine hK _ _ ?_
    clear hK K
    obtain ⟨ia, ic, hvi, _⟩ := hoi.at
    rw [HVn.out] at hvi
    subst hvi
    obtain ⟨hzi, q0, q1, f0, f1, kb⟩ := heads_room (HBI.trans hbi)
    obtain ⟨r0, r1⟩ := two_set (v0 := .int .i64 0) (v1 := .slice ia vn ic) q0 q1
    refine wpAny_seq2 (k := 7) (o1 := Oper.mk _ _ _ _ _ _) (o2 := Oper.mk _ _ _ _ _ _) rfl rfl rfl (by kernel_rfl) ?_
    go_wp2_with fail
    exact bodyPost_ret (v := .agg #[.int .i64 0, .slice ia vn ic]) (by simp [results, Tryd.results13, go_sem, r0, r1]) rfl ⟨HRes.mk HY.out ((ownH_set (ownH_set hoi (Nat.lt_succ_self _)) (Nat.lt_succ_self _)).lower (Nat.le_succ _)), (kb.setCell (Nat.le_refl _) _).setCell (Nat.le_refl _) _⟩
  · go_simp
    refine hK _ _ ?_
    clear hK K
    refine wpAny_ready (rs := [2, 5]) (by kernel_rfl) (by simp) ?_
    refine AllReady.cons rfl (fun K hK => ?_) (AllReady.cons rfl (fun K hK => ?_) AllReady.nil)
    · go_simp
      go_wp2_with fail
      refine (HLN.out _ _ HBZ.out HMZ.out).mono ?_
      rintro e wl ⟨⟨vl, rfl, hol⟩, hbl⟩
      obtain ⟨la, lc, hvl, _⟩ := hol.at
      rw [HLn.out] at hvl
      subst hvl
      refine hK _ _ ?_
      clear hK K
      refine wpAny_ready (rs := [5]) (by kernel_rfl) (by simp) ?_
      refine AllReady.cons rfl (fun K hK => ?_) AllReady.nil
      go_simp
      refine hK _ _ ?_
      clear hK K
      have HBI : Below (w.heap.size + 1) (w.alloc (.cells #[.int .i64 0, .slice none 0 0] 31)) (wl.alloc (.cells #[.string name, .string value] 56)) := (HBZ.out.trans (hbl.mono hzZ)).alloc (Nat.le_trans hzZ hbl.size) _
      have HX := HINS.out (wl.alloc (.cells #[.string name, .string value] 56)) la lc wl.heap.size ((hol.lower hzZ).below ((Below.refl _ _).alloc (Nat.le_refl _) _)) (by have := hbl.size; simp; omega) (MapKept.heap_alloc wl _).1 (fun g hg => by have := ownH_lt hol g hg; omega)
      refine wpAny_ready (rs := [6]) (by kernel_rfl) (by simp) ?_
      refine AllReady.cons rfl (fun K hK => ?_) AllReady.nil
      go_simp
      go_wp2_with fail
      refine (HX).mono ?_
      rintro e wi ⟨⟨vi, rfl, hoi⟩, hbi⟩
      refine hK _ _ ?_
      clear hK K
      obtain ⟨ia, ic, hvi, _⟩ := hoi.at
      rw [HVn.out] at hvi
      subst hvi
      obtain ⟨hzi, q0, q1, f0, f1, kb⟩ := heads_room (HBI.trans hbi)
      obtain ⟨r0, r1⟩ := two_set (v0 := .int .i64 0) (v1 := .slice ia vn ic) q0 q1
      refine wpAny_seq2 (k := 7) (o1 := Oper.mk _ _ _ _ _ _) (o2 := Oper.mk _ _ _ _ _ _) rfl rfl rfl (by kernel_rfl) ?_
      go_wp2_with fail
      exact bodyPost_ret (v := .agg #[.int .i64 0, .slice ia vn ic]) (by simp [results, Tryd.results13, go_sem, r0, r1]) rfl ⟨HRes.mk HY.out ((ownH_set (ownH_set hoi (Nat.lt_succ_self _)) (Nat.lt_succ_self _)).lower (Nat.le_succ _)), (kb.setCell (Nat.le_refl _) _).setCell (Nat.le_refl _) _⟩
    · go_simp
      refine hK _ _ ?_
      clear hK K
      have alZ : Below Z.heap.size Z (Z.alloc (.cells #[.string name, .string value] 56)) := (Below.refl _ _).alloc (Nat.le_refl _) _
      refine wpAny_ready (rs := [2]) (by kernel_rfl) (by simp) ?_
      refine AllReady.cons rfl (fun K hK => ?_) AllReady.nil
      go_simp
      go_wp2_with fail
      refine (HLN.out _ _ (HBZ.out.trans (alZ.mono hzZ)) (HMZ.out.below alZ)).mono ?_
      rintro e wl ⟨⟨vl, rfl, hol⟩, hbl⟩
      obtain ⟨la, lc, hvl, _⟩ := hol.at
      rw [HLn.out] at hvl
      subst hvl
      refine hK _ _ ?_
      clear hK K
      have HBI : Below (w.heap.size + 1) (w.alloc (.cells #[.int .i64 0, .slice none 0 0] 31)) wl := HBZ.out.trans ((alZ.mono hzZ).trans (hbl.mono (by simp; omega)))
      have HX := HINS.out wl la lc Z.heap.size (hol.lower (by simp; omega)) (by have := hbl.size; simp at this; omega) (by rw [hbl.block Z.heap.size (by simp)]; exact (MapKept.heap_alloc Z _).1) (fun g hg => by have := own_geH hol g hg; simp at this; omega)
      refine wpAny_ready (rs := [6]) (by kernel_rfl) (by simp) ?_
      refine AllReady.cons rfl (fun K hK => ?_) AllReady.nil
      go_simp
      go_wp2_with fail
      refine (HX).mono ?_
      rintro e wi ⟨⟨vi, rfl, hoi⟩, hbi⟩
      refine hK _ _ ?_
      clear hK K
      obtain ⟨ia, ic, hvi, _⟩ := hoi.at
      rw [HVn.out] at hvi
      subst hvi
      obtain ⟨hzi, q0, q1, f0, f1, kb⟩ := heads_room (HBI.trans hbi)
      obtain ⟨r0, r1⟩ := two_set (v0 := .int .i64 0) (v1 := .slice ia vn ic) q0 q1
      refine wpAny_seq2 (k := 7) (o1 := Oper.mk _ _ _ _ _ _) (o2 := Oper.mk _ _ _ _ _ _) rfl rfl rfl (by kernel_rfl) ?_
      go_wp2_with fail
      exact bodyPost_ret (v := .agg #[.int .i64 0, .slice ia vn ic]) (by simp [results, Tryd.results13, go_sem, r0, r1]) rfl ⟨HRes.mk HY.out ((ownH_set (ownH_set hoi (Nat.lt_succ_self _)) (Nat.lt_succ_self _)).lower (Nat.le_succ _)), (kb.setCell (Nat.le_refl _) _).setCell (Nat.le_refl _) _⟩
set_option maxRecDepth 100000 in
set_option maxHeartbeats 16000000 in
theorem implSet_new (w : World) (a : Option Addr) (cap : Nat) (l : List Hdr) (name value : ByteArray)  (h0 : askC l name = 0) (h1 : faultH ⟨name, value⟩ = 0) (hf : firstAt (lowS name) l = none) (hlt : l.length < 20) (hv : value.size ≤ 1048576) (hset : SetIs w) (hi : HdsIn w a l) :
    Calls Tryd.prog 13 #[.slice a l.length cap, .string name, .string value] w fun e w' => HRes (setC l ⟨name, value⟩) (setL l ⟨name, value⟩) w.heap.size e w' ∧ Below w.heap.size w w' := by
  obtain ⟨h20, hz, hnm⟩ := asked h0
  have HA : Hid (∀ W, Below w.heap.size w W → Calls Tryd.prog 39 #[.slice a l.length cap, .string name] W fun e w' => e = .returned (.int .i64 0) ∧ Below W.heap.size W w') := fun W hb => by
    have := namedFault_any W a cap l name (by omega) (hset.below hb) (hi.keep hb)
    rw [h0] at this
    exact this
  have HLF : Hid (∀ W, Below w.heap.size w W → Calls Tryd.prog 41 #[.agg #[.string name, .string value]] W fun e w' => e = .returned (.int .i64 0) ∧ Below W.heap.size W w') := fun W hb => by
    have := implLine_any ⟨name, value⟩ W (hset.below hb)
    rw [h1] at this
    exact this
  have HP : Hid (∀ W, Below w.heap.size w W → Calls Tryd.prog 42 #[.slice a l.length cap] W fun e w' => e = .returned (.map (some W.heap.size)) ∧ NamesMap w' W.heap.size 20 (fun x => firstAt x l) ∧ Below W.heap.size W w') := fun W hb => firstPlaces_any W a cap l h20 (fun i r hr => (hz i r hr).1) (hi.keep hb)
  have HS : Hid (∀ W, Calls Tryd.prog 43 #[.string name] W fun e w' => e = .returned (.string (lowS name)) ∧ Below W.heap.size W w') := fun W => smallName_any name W (by omega)
  have HLO : Hid (∀ W, Calls Tryd.prog 40 #[.string name, .string value] W fun e w' => e = .returned (.agg #[.string name, .string value]) ∧ Below W.heap.size W w') := fun W => lineOf_any name value W (by omega) (by omega)
  have HLN : Hid (∀ W BM, Below (w.heap.size + 1) (w.alloc (.cells #[.int .i64 0, .slice none 0 0] 31)) W → NamesMap W BM 20 (fun y => if y = lowS name then none else firstAt y l) → Calls Tryd.prog 45 #[.slice a l.length cap, .map (some BM)] W fun e w' => KeptRes W.heap.size (dropH (lowS name) l) e w' ∧ Below W.heap.size W w') := fun W BM hb hm => by
    rw [← keptH_drop]
    exact linesNamed_any W a cap l BM _ h20 hz (hi.keep (heads_room hb).2.2.2.2.2) hm
  have hDl : (dropH (lowS name) l).length ≤ 20 := Nat.le_trans (dropH_len _ _) h20
  have HINS : Hid (∀ W la lc vb, OwnH W (w.heap.size + 1) (.slice la (dropH (lowS name) l).length lc) (dropH (lowS name) l) → w.heap.size + 1 ≤ W.heap.size → W.heap[vb]? = some (.cells #[.string name, .string value] 56 (0, 0)) → (∀ g, (Value.slice la (dropH (lowS name) l).length lc).ownBlock = some g → vb ≠ g) →
      Calls Tryd.prog 44 #[.slice la (dropH (lowS name) l).length lc, .int .i64 (l.length : Int), .slice (some ⟨vb, 0, none⟩) 1 1] W fun e w' => KeptRes (w.heap.size + 1) ((dropH (lowS name) l).take l.length ++ [⟨name, value⟩] ++ (dropH (lowS name) l).drop l.length) e w' ∧ Below (w.heap.size + 1) W w') := fun W la lc vb ho hbs hvb hne => insert_any W (w.heap.size + 1) la lc (dropH (lowS name) l) l.length name value vb _ ho hbs (by omega) (by rw [dropH_all hf]; exact Nat.le_refl _) hvb hne
  have HY : Hid (setC l ⟨name, value⟩ = 0 ∧ setL l ⟨name, value⟩ = (dropH (lowS name) l).take l.length ++ [⟨name, value⟩] ++ (dropH (lowS name) l).drop l.length) := by
    have hs : setGo ⟨name, value⟩ false l = (dropH (lowS name) l).take l.length ++ [⟨name, value⟩] ++ (dropH (lowS name) l).drop l.length := by
      rw [setGo_first]
      simp only [hf]
      rw [dropH_all hf]
      simp
    have hle : ¬ 20 < (setGo ⟨name, value⟩ false l).length := by
      rw [hs, dropH_all hf]
      simp
      omega
    have := set_ok (h := ⟨name, value⟩) h0 h1 hle
    rw [hs] at this
    exact this
  have HFA : Hid (firstAt (lowS name) l = none) := hf
  have sz := lowS_size name
  clear hi hz h0 h1 hset hf hDl
  generalize (dropH (lowS name) l).take l.length ++ [⟨name, value⟩] ++ (dropH (lowS name) l).drop l.length = RES at *
  generalize dropH (lowS name) l = L at *
  generalize hLn : L.length = ln at *
  have HLn : Hid (L.length = ln) := hLn
  generalize hVn : RES.length = vn at *
  have HVn : Hid (RES.length = vn) := hVn
  clear hLn hVn
  generalize lowS name = q at *
  generalize l.length = n at *
  have gn : ¬ ((n : Int) = 20) := by omega
  go_enter Tryd.func13, Tryd.ntmps13
  go_wp2_with fail
  refine (HA.out _ ((Below.refl _ _).alloc (Nat.le_refl _) _)).mono ?_
  rintro e w1 ⟨rfl, hb1⟩
  rw [World.size_alloc] at hb1
  have HB1 : Hid (Below (w.heap.size + 1) (w.alloc (.cells #[.int .i64 0, .slice none 0 0] 31)) w1) := hb1
  have hz1 : w.heap.size + 1 ≤ w1.heap.size := by have := hb1.size; rwa [World.size_alloc] at this
  clear hb1 HA
  go_wp2_with fail
  refine (HLO.out _).mono ?_
  rintro e w2 ⟨rfl, hb2⟩
  have HB2 : Hid (Below (w.heap.size + 1) (w.alloc (.cells #[.int .i64 0, .slice none 0 0] 31)) w2) := HB1.out.trans (hb2.mono hz1)
  have hz2 : w.heap.size + 1 ≤ w2.heap.size := Nat.le_trans hz1 hb2.size
  clear hb2 HB1 HLO hz1
  go_wp2_with fail
  refine (HLF.out _ ((heads_room HB2.out).2.2.2.2.2.alloc (by omega) _)).mono ?_
  rintro e w3 ⟨rfl, hb3⟩
  obtain ⟨hlt3, l0, l1, kb3⟩ := hdr_room hb3
  have HB3 : Hid (Below (w.heap.size + 1) (w.alloc (.cells #[.int .i64 0, .slice none 0 0] 31)) w3) := HB2.out.trans (kb3.mono hz2)
  have hz3' : w.heap.size + 1 ≤ w3.heap.size := Nat.le_trans hz2 kb3.size
  clear hb3 kb3 HB2 HLF hz2
  generalize w2.heap.size = BL at *
  try clear w2
  go_wp2_with fail
  refine (HP.out _ (heads_room HB3.out).2.2.2.2.2).mono ?_
  rintro e w4 ⟨rfl, hm4, hb4⟩
  have HB4 : Hid (Below (w.heap.size + 1) (w.alloc (.cells #[.int .i64 0, .slice none 0 0] 31)) w4) := HB3.out.trans (hb4.mono hz3')
  have hz4 : w.heap.size + 1 ≤ w4.heap.size := Nat.le_trans hz3' hb4.size
  have HM4 : Hid (NamesMap w4 w3.heap.size 20 (fun x => firstAt x l)) := hm4
  have l0 := hkeep hb4 l0
  have l1 := hkeep hb4 l1
  clear hb4 HB3 hm4 HP
  generalize w3.heap.size = BM at *
  try clear w3
  go_wp2_with fail
  refine (HS.out _).mono ?_
  rintro e w5 ⟨rfl, hb5⟩
  have HB5 : Hid (Below (w.heap.size + 1) (w.alloc (.cells #[.int .i64 0, .slice none 0 0] 31)) w5) := HB4.out.trans (hb5.mono hz4)
  have hz5 : w.heap.size + 1 ≤ w5.heap.size := Nat.le_trans hz4 hb5.size
  have HM5 : Hid (NamesMap w5 BM 20 (fun x => firstAt x l)) := HM4.out.below hb5
  have l0 := hkeep hb5 l0
  have l1 := hkeep hb5 l1
  clear hb5 HB4 HM4 hz4
  try clear w4
  go_wp2_with (at_lookup; refine wpList_look_none _ rfl _ _ rfl BM 20 _ rfl HM5.out q rfl (by omega) HFA.out ?_)
  refine (HS.out _).mono ?_
  rintro e w6 ⟨rfl, hb6⟩
  have HB6 : Hid (Below (w.heap.size + 1) (w.alloc (.cells #[.int .i64 0, .slice none 0 0] 31)) w6) := HB5.out.trans (hb6.mono hz5)
  have hz6 : w.heap.size + 1 ≤ w6.heap.size := Nat.le_trans hz5 hb6.size
  have HM6 : Hid (NamesMap w6 BM 20 (fun x => firstAt x l)) := HM5.out.below hb6
  have l0 := hkeep hb6 l0
  have l1 := hkeep hb6 l1
  have hBL : BL < BM := hlt3
  clear hb6 HB5 HM5 hz5 HS
  try clear w5
  go_wp2_with (at_delete; refine wpList_del _ rfl _ _ rfl BM 20 _ rfl HM6.out q rfl (by omega) BM (Nat.le_refl _) ?_; intro w7 HM7 hb7)
  have HB7 : Below (w.heap.size + 1) (w.alloc (.cells #[.int .i64 0, .slice none 0 0] 31)) w7 := HB6.out.trans (hb7.mono hz3')
  have hz7 : w.heap.size + 1 ≤ w7.heap.size := by have := HB7.size; rwa [World.size_alloc] at this
  have l0 : w7.cell? ⟨BL, 0, none⟩ = some (.string name) := by rw [hb7.cell (p := ⟨BL, 0, none⟩) hBL]; exact l0
  have l1 : w7.cell? ⟨BL, 1, none⟩ = some (.string value) := by rw [hb7.cell (p := ⟨BL, 1, none⟩) hBL]; exact l1
  clear HB6 HM6 hz6
  refine wp_region_any (by kernel_rfl) ?_
  change wpAny _ _ _ _ _ _ _ (World.drew _)
  obtain ⟨Z, hZ⟩ : ∃ X, X = w7.drew := ⟨_, rfl⟩
  rw [← hZ]
  have KZ : Below w7.heap.size w7 Z := by
    rw [hZ]
    exact (Below.refl _ _).drew
  have HMZ : Hid (NamesMap Z BM 20 (fun y => if y = q then none else firstAt y l)) := HM7.below KZ
  have HBZ : Hid (Below (w.heap.size + 1) (w.alloc (.cells #[.int .i64 0, .slice none 0 0] 31)) Z) := HB7.trans (KZ.mono hz7)
  have hzZ : w.heap.size + 1 ≤ Z.heap.size := Nat.le_trans hz7 KZ.size
  have l0 := hkeep KZ l0
  have l1 := hkeep KZ l1
  clear hZ KZ HM7 HB7 hb7
  refine wpAny_take (i := 0) (v := .slice a n cap) rfl (by kernel_rfl) (by kernel_rfl) (by kernel_rfl) (fun _ _ _ h => h) (Or.inl ⟨by kernel_rfl, ?_⟩) ?_
  · intro w; go_simp
  refine wpAny_take (i := 1) (v := .map (some BM)) rfl (by kernel_rfl) (by kernel_rfl) (by kernel_rfl) (fun _ _ _ h => h) (Or.inl ⟨by kernel_rfl, ?_⟩) ?_
  · intro w; go_simp
  refine wpAny_take (i := 3) (v := .int .i64 (n : Int)) rfl (by kernel_rfl) (by kernel_rfl) (by kernel_rfl) (fun _ _ _ h => h) (Or.inl ⟨by kernel_rfl, ?_⟩) ?_
  · intro w; go_simp
  refine wpAny_ready (rs := [2, 4]) (by kernel_rfl) (by simp) ?_
  refine AllReady.cons rfl (fun K hK => ?_) (AllReady.cons rfl (fun K hK => ?_) AllReady.nil)
  · go_simp
    go_wp2_with fail
    refine (HLN.out _ _ HBZ.out HMZ.out).mono ?_
    rintro e wl ⟨⟨vl, rfl, hol⟩, hbl⟩
    obtain ⟨la, lc, hvl, _⟩ := hol.at
    rw [HLn.out] at hvl
    subst hvl
    refine hK _ _ ?_
    clear hK K
    have l0 := hkeep hbl l0
    have l1 := hkeep hbl l1
    refine wpAny_ready (rs := [4]) (by kernel_rfl) (by simp) ?_
    refine AllReady.cons rfl (fun K hK => ?_) AllReady.nil
    go_simp
    refine hK _ _ ?_
    clear hK K
    refine wpAny_ready (rs := [5]) (by kernel_rfl) (by simp) ?_
    refine AllReady.cons rfl (fun K hK => ?_) AllReady.nil
    go_simp
    refine hK _ _ ?_
    clear hK K
    have HBI : Below (w.heap.size + 1) (w.alloc (.cells #[.int .i64 0, .slice none 0 0] 31)) (wl.alloc (.cells #[.string name, .string value] 56)) := (HBZ.out.trans (hbl.mono hzZ)).alloc (Nat.le_trans hzZ hbl.size) _
    have HX := HINS.out (wl.alloc (.cells #[.string name, .string value] 56)) la lc wl.heap.size ((hol.lower hzZ).below ((Below.refl _ _).alloc (Nat.le_refl _) _)) (by have := hbl.size; simp; omega) (MapKept.heap_alloc wl _).1 (fun g hg => by have := ownH_lt hol g hg; omega)
    refine wpAny_ready (rs := [6]) (by kernel_rfl) (by simp) ?_
    refine AllReady.cons rfl (fun K hK => ?_) AllReady.nil
    go_simp
    go_wp2_with fail
    refine (HX).mono ?_
    rintro e wi ⟨⟨vi, rfl, hoi⟩, hbi⟩
    refine hK _ _ ?_
    clear hK K
    obtain ⟨ia, ic, hvi, _⟩ := hoi.at
    rw [HVn.out] at hvi
    subst hvi
    obtain ⟨hzi, q0, q1, f0, f1, kb⟩ := heads_room (HBI.trans hbi)
    obtain ⟨r0, r1⟩ := two_set (v0 := .int .i64 0) (v1 := .slice ia vn ic) q0 q1
    refine wpAny_seq2 (k := 7) (o1 := Oper.mk _ _ _ _ _ _) (o2 := Oper.mk _ _ _ _ _ _) rfl rfl rfl (by kernel_rfl) ?_
    go_wp2_with fail
    exact bodyPost_ret (v := .agg #[.int .i64 0, .slice ia vn ic]) (by simp [results, Tryd.results13, go_sem, r0, r1]) rfl ⟨HRes.mk HY.out ((ownH_set (ownH_set hoi (Nat.lt_succ_self _)) (Nat.lt_succ_self _)).lower (Nat.le_succ _)), (kb.setCell (Nat.le_refl _) _).setCell (Nat.le_refl _) _⟩
  · go_simp
    refine hK _ _ ?_
    clear hK K
    refine wpAny_ready (rs := [2, 5]) (by kernel_rfl) (by simp) ?_
    refine AllReady.cons rfl (fun K hK => ?_) (AllReady.cons rfl (fun K hK => ?_) AllReady.nil)
    · go_simp
      go_wp2_with fail
      refine (HLN.out _ _ HBZ.out HMZ.out).mono ?_
      rintro e wl ⟨⟨vl, rfl, hol⟩, hbl⟩
      obtain ⟨la, lc, hvl, _⟩ := hol.at
      rw [HLn.out] at hvl
      subst hvl
      refine hK _ _ ?_
      clear hK K
      refine wpAny_ready (rs := [5]) (by kernel_rfl) (by simp) ?_
      refine AllReady.cons rfl (fun K hK => ?_) AllReady.nil
      go_simp
      refine hK _ _ ?_
      clear hK K
      have HBI : Below (w.heap.size + 1) (w.alloc (.cells #[.int .i64 0, .slice none 0 0] 31)) (wl.alloc (.cells #[.string name, .string value] 56)) := (HBZ.out.trans (hbl.mono hzZ)).alloc (Nat.le_trans hzZ hbl.size) _
      have HX := HINS.out (wl.alloc (.cells #[.string name, .string value] 56)) la lc wl.heap.size ((hol.lower hzZ).below ((Below.refl _ _).alloc (Nat.le_refl _) _)) (by have := hbl.size; simp; omega) (MapKept.heap_alloc wl _).1 (fun g hg => by have := ownH_lt hol g hg; omega)
      refine wpAny_ready (rs := [6]) (by kernel_rfl) (by simp) ?_
      refine AllReady.cons rfl (fun K hK => ?_) AllReady.nil
      go_simp
      go_wp2_with fail
      refine (HX).mono ?_
      rintro e wi ⟨⟨vi, rfl, hoi⟩, hbi⟩
      refine hK _ _ ?_
      clear hK K
      obtain ⟨ia, ic, hvi, _⟩ := hoi.at
      rw [HVn.out] at hvi
      subst hvi
      obtain ⟨hzi, q0, q1, f0, f1, kb⟩ := heads_room (HBI.trans hbi)
      obtain ⟨r0, r1⟩ := two_set (v0 := .int .i64 0) (v1 := .slice ia vn ic) q0 q1
      refine wpAny_seq2 (k := 7) (o1 := Oper.mk _ _ _ _ _ _) (o2 := Oper.mk _ _ _ _ _ _) rfl rfl rfl (by kernel_rfl) ?_
      go_wp2_with fail
      exact bodyPost_ret (v := .agg #[.int .i64 0, .slice ia vn ic]) (by simp [results, Tryd.results13, go_sem, r0, r1]) rfl ⟨HRes.mk HY.out ((ownH_set (ownH_set hoi (Nat.lt_succ_self _)) (Nat.lt_succ_self _)).lower (Nat.le_succ _)), (kb.setCell (Nat.le_refl _) _).setCell (Nat.le_refl _) _⟩
    · go_simp
      refine hK _ _ ?_
      clear hK K
      have alZ : Below Z.heap.size Z (Z.alloc (.cells #[.string name, .string value] 56)) := (Below.refl _ _).alloc (Nat.le_refl _) _
      refine wpAny_ready (rs := [2]) (by kernel_rfl) (by simp) ?_
      refine AllReady.cons rfl (fun K hK => ?_) AllReady.nil
      go_simp
      go_wp2_with fail
      refine (HLN.out _ _ (HBZ.out.trans (alZ.mono hzZ)) (HMZ.out.below alZ)).mono ?_
      rintro e wl ⟨⟨vl, rfl, hol⟩, hbl⟩
      obtain ⟨la, lc, hvl, _⟩ := hol.at
      rw [HLn.out] at hvl
      subst hvl
      refine hK _ _ ?_
      clear hK K
      have HBI : Below (w.heap.size + 1) (w.alloc (.cells #[.int .i64 0, .slice none 0 0] 31)) wl := HBZ.out.trans ((alZ.mono hzZ).trans (hbl.mono (by simp; omega)))
      have HX := HINS.out wl la lc Z.heap.size (hol.lower (by simp; omega)) (by have := hbl.size; simp at this; omega) (by rw [hbl.block Z.heap.size (by simp)]; exact (MapKept.heap_alloc Z _).1) (fun g hg => by have := own_geH hol g hg; simp at this; omega)
      refine wpAny_ready (rs := [6]) (by kernel_rfl) (by simp) ?_
      refine AllReady.cons rfl (fun K hK => ?_) AllReady.nil
      go_simp
      go_wp2_with fail
      refine (HX).mono ?_
      rintro e wi ⟨⟨vi, rfl, hoi⟩, hbi⟩
      refine hK _ _ ?_
      clear hK K
      obtain ⟨ia, ic, hvi, _⟩ := hoi.at
      rw [HVn.out] at hvi
      subst hvi
      obtain ⟨hzi, q0, q1, f0, f1, kb⟩ := heads_room (HBI.trans hbi)
      obtain ⟨r0, r1⟩ := two_set (v0 := .int .i64 0) (v1 := .slice ia vn ic) q0 q1
      refine wpAny_seq2 (k := 7) (o1 := Oper.mk _ _ _ _ _ _) (o2 := Oper.mk _ _ _ _ _ _) rfl rfl rfl (by kernel_rfl) ?_
      go_wp2_with fail
      exact bodyPost_ret (v := .agg #[.int .i64 0, .slice ia vn ic]) (by simp [results, Tryd.results13, go_sem, r0, r1]) rfl ⟨HRes.mk HY.out ((ownH_set (ownH_set hoi (Nat.lt_succ_self _)) (Nat.lt_succ_self _)).lower (Nat.le_succ _)), (kb.setCell (Nat.le_refl _) _).setCell (Nat.le_refl _) _⟩
end Go.Proofs.YthlenlijdlfdeaaDoor
