/-
  What the model's l4Read and ReadHeaders answer.
-/
import Derived.Test.YthlenlijdlfdeaaDoorHLinesSpec
import Derived.Test.YthlenlijdlfdeaaDoorHDropFns
import Derived.StillTail
namespace Go.Proofs.YthlenlijdlfdeaaDoor
open Go.ChangeShapes Go.WideShapes Go.ChangeAt Go.RowKit Go.Sort
theorem wpAny_seq3 {P : Program} {md : Region.Mode} {ops : Array Oper} {Q : Exit → Act → World → Prop} {k : Nat} {o1 o2 o3 : Oper} {listed : Array Bool} {a : Act} {w : World} (h1 : ops[k]? = some o1) (h2 : ops[k + 1]? = some o2) (h3 : ops[k + 2]? = some o3) (h4 : ops.size = k + 3)
    (hB : Region.seqB md ops 3 k listed = true) (h : wpList P ops Q [o1, o2, o3] a w) : wpAny P md ops Q 3 listed a w :=
  wpAny_of_seq [o1, o2, o3] k listed a w (fun j => by
    match j with
    | 0 => simpa using h1.symm
    | 1 => simpa using h2.symm
    | 2 => simpa using h3.symm
    | j + 3 => rw [Array.getElem?_eq_none (by omega)]; simp) hB h
def HReadRes (s : ByteArray) (base : Nat) (e : Ending) (w : World) : Prop := ∃ v, e = .returned (.tuple #[v, .int .i64 (readHC s)]) ∧ OwnH w base v (readHL s)
theorem HReadRes.mk {s : ByteArray} {base : Nat} {w : World} {v : Value} {c : Int} {L : List Hdr} (h : readHC s = c ∧ readHL s = L) (ho : OwnH w base v L) : HReadRes s base (.returned (.tuple #[v, .int .i64 c])) w := ⟨v, by rw [h.1], by rw [h.2]; exact ho⟩
theorem readT_of_none {l : List UInt8} (h : linesO l = none) : readT l = none := by unfold readT; rw [h]; rfl
theorem readT_of_some {l : List UInt8} {P : List (List UInt8)} (h : linesO l = some P) : readT l = readLs P := by unfold readT; rw [h]; rfl
theorem cl_get (p : List UInt8) (k : Nat) (h : k < (hmk p).size) : (hmk p)[k] = p[k]'(by rw [hmk_size] at h; exact h) := by
  rfl
theorem hext_take (p : List UInt8) (k : Nat) : (hmk p).extract 0 k = hmk (p.take k) := by
  rw [hext_mk, hmk_list]; simp
theorem hext_drop (p : List UInt8) (k : Nat) : (hmk p).extract k (hmk p).size = hmk (p.drop k) := by
  rw [hext_mk, hmk_list, hmk_size, List.take_of_length_le (by rw [List.length_drop]; exact Nat.le_refl _)]
set_option maxRecDepth 100000 in
set_option maxHeartbeats 16000000 in
theorem l4Read_any (s : ByteArray) (w : World) (hs : ¬ 6000 < s.size) :
    Calls Tryd.prog 57 #[.string s] w fun e w' => HReadRes s w.heap.size e w' ∧ Below w.heap.size w w' := by
  have HP : Hid (∀ w, Calls Tryd.prog 88 #[.string s] w fun e w' => LinesRes s w.heap.size e w' ∧ Below w.heap.size w w') := fun w => l4Lines_any s w (by omega)
  have R5 : Hid (readT s.data.toList = none → readHC s = 5 ∧ readHL s = []) := fun h => readH_bad hs h
  have RF : Hid (∀ L, readT s.data.toList = some L → headsC L ≠ 0 → readHC s = headsC L ∧ readHL s = []) := fun L h1 h2 => readH_fault hs h1 h2
  have R0 : Hid (∀ L, readT s.data.toList = some L → headsC L = 0 → readHC s = 0 ∧ readHL s = L) := fun L h1 h2 => readH_ok hs h1 h2
  go_enter Tryd.func57, Tryd.ntmps57
  go_wp2_with fail
  refine (HP.out _).mono ?_
  rintro e w1 ⟨⟨v, O, ok, rfl, ho, hol, h1, h2⟩, hb1⟩
  have HB1 : Hid (Below w.heap.size w w1) := hb1
  have hzb1 := hb1.size
  clear hb1 HP
  cases ok
  · have HX : Hid (readHC s = 5 ∧ readHL s = []) := R5.out (readT_of_none (h2 rfl))
    clear h1 h2 R5 RF R0 ho
    go_wp2_with fail
    go_ret2
    exact ⟨HReadRes.mk HX.out (OwnH.nil _ _), HB1.out⟩
  have HT : Hid (readT s.data.toList = readLs O) := readT_of_some (h1 rfl)
  have hpl := (linesO_len _ _ O (Nat.le_refl _) (h1 rfl)).2
  have HPL : Hid (∀ p ∈ O, p.length ≤ 6000) := fun p hp => by have := hpl p hp; rw [hsize_list] at this; omega
  clear h1 h2 hpl
  obtain ⟨va, vc, hv, _⟩ := ho.shape
  rw [List.length_map] at hv
  subst hv
  have HO1 : Hid (OwnS w1 0 (.slice va O.length vc) (O.map hmk)) := OwnS.lower ho (Nat.zero_le _)
  clear ho
  generalize hn : O.length = n at *
  have HN : Hid (O.length = n) := hn
  clear hn
  go_wp2_with fail
  go_loopw [6, 7] (fun v i wr => ∃ (k : Nat) (R : List Hdr), k ≤ n ∧ R.length ≤ k ∧ i = .int .i64 k ∧ OwnH wr w.heap.size v R ∧ readLs O = (readLs (O.drop k)).map (R ++ ·) ∧ Below w.heap.size w wr ∧ OwnS wr 0 (.slice va n vc) (O.map hmk)) (fun _ i _ => n - (intOf i).toNat)
  case atStart => exact ⟨0, [], Nat.zero_le _, Nat.le_refl _, rfl, OwnH.made0 w1 w.heap.size hzb1, by simp, HB1.out.alloc hzb1 _, HO1.out.below ((Below.refl _ _).alloc (Nat.le_refl _) _)⟩
  case round =>
    obtain ⟨k, R, hk, hR, rfl, hown, hrd, hb, hat⟩ := hrel
    have HO : Hid (OwnH wr w.heap.size u6 R) := hown
    have HD : Hid (readLs O = (readLs (O.drop k)).map (R ++ ·)) := hrd
    have HB : Hid (Below w.heap.size w wr) := hb
    have HTx : Hid (OwnS wr 0 (.slice va n vc) (O.map hmk)) := hat
    have hz := hb.size
    clear hown hrd hb hat HB1 HO1
    by_cases hlt : k < n
    · obtain ⟨p, hp⟩ : ∃ p, O[k]? = some p := ⟨O[k]'(by have := HN.out; omega), List.getElem?_eq_getElem _⟩
      obtain ⟨a2, c2, hv2, hcell⟩ := HTx.out.shape
      obtain ⟨g, hg, c1⟩ := hcell k (hmk p) (by rw [List.getElem?_map, hp]; rfl)
      have ha2 : va = a2 := (Value.slice.inj hv2).1
      subst ha2
      subst hg
      have hpz : p.length ≤ 6000 := HPL.out p (List.mem_of_getElem? hp)
      have hdr : O.drop k = p :: O.drop (k + 1) := by
        obtain ⟨hk2, rfl⟩ := List.getElem?_eq_some_iff.1 hp
        exact List.drop_eq_getElem_cons hk2
      have D2 : ¬ clAt p < p.length → readLs O = none := fun h => by rw [HD.out, hdr, readLs_bad h]; rfl
      have D3 : clAt p < p.length → readLs O = (readLs (O.drop (k + 1))).map ((R ++ [lineOf p]) ++ ·) := fun h => by
        rw [HD.out, hdr, readLs_take h, Option.map_map]
        congr 1
        funext x
        simp
      have EL : lineOf p = ⟨(hmk p).extract 0 (clAt p), trimT ((hmk p).extract (clAt p + 1) (hmk p).size)⟩ := by rw [hext_take, hext_drop]; rfl
      rw [EL] at D3
      have hps : (hmk p).size = p.length := hmk_size p
      have hon : ∀ j, j ≤ clAt p → (h : j < (hmk p).size) → ((hmk p)[j] = 58 → clAt p = j) ∧ (¬ (hmk p)[j] = 58 → j + 1 ≤ clAt p) := fun j hj h => by
        have := clAt_on p j hj (by rw [hps] at h; exact h)
        rw [cl_get p j h]
        exact this
      have hle := clAt_le p
      have gk : (k : Int) < n := by omega
      rw [← hps] at hpz hle D2 D3
      clear hdr hp HD EL hps hcell hv2
      generalize hmk p = pb at *
      generalize clAt p = q at *
      have HD2 : Hid (¬ q < pb.size → readLs O = none) := D2
      have HD3 : Hid (q < pb.size → readLs O = (readLs (O.drop (k + 1))).map ((R ++ [⟨pb.extract 0 q, trimT (pb.extract (q + 1) pb.size)⟩]) ++ ·)) := D3
      have HON : Hid (∀ j, j ≤ q → (h : j < pb.size) → (pb[j] = 58 → q = j) ∧ (¬ pb[j] = 58 → j + 1 ≤ q)) := hon
      clear D2 D3 hon
      have gk0 : (0 : Int) ≤ k := by omega
      go_wp2_with fail
      go_loop [8] (fun x => ∃ j : Nat, j ≤ q ∧ x = .int .i64 (j : Int)) (fun x => pb.size - (intOf x).toNat)
      case atStart => exact ⟨0, Nat.zero_le _, rfl⟩
      case round =>
        obtain ⟨j, hj, rfl⟩ := hrel
        by_cases hjs : j < pb.size
        · have gj : (j : Int) < pb.size := by omega
          have gj0 : (0 : Int) ≤ j := by omega
          obtain ⟨o1, o2⟩ := HON.out j hj hjs
          by_cases h58 : (pb[j].toNat : Int) = 58
          · have hqj : q = j := o1 ((u8_58 _).2 h58)
            have d58 : ((pb[j].toNat : Int) != 58) = false := by simpa using h58
            have gne : ¬ (j : Int) = pb.size := by omega
            have HY0 := HD3.out (by omega)
            rw [hqj] at HY0
            have HTR0 := fun w => l1Trim_big (pb.extract (j + 1) pb.size) w (by rw [ByteArray.size_extract]; omega)
            obtain ⟨tv, htv⟩ : ∃ tv, Hid (trimT (pb.extract (j + 1) pb.size) = tv) := ⟨_, rfl⟩
            rw [htv.out] at HY0
            have HTR : Hid (∀ w, Calls Tryd.prog 86 #[.string (pb.extract (j + 1) pb.size)] w fun e w' => e = .returned (.string tv) ∧ w' = w) := by
              rw [htv.out] at HTR0
              exact HTR0
            have HY : Hid (readLs O = (readLs (O.drop (k + 1))).map ((R ++ [⟨pb.extract 0 j, tv⟩]) ++ ·)) := HY0
            clear o1 o2 HY0 HTR0 htv HD2 HD3 HON
            go_wp2_with fail
            refine wp_region_any (by kernel_rfl) ?_
            change wpAny _ _ _ _ _ _ _ (World.drew _)
            obtain ⟨Z, hZ⟩ : ∃ X, X = wr.drew := ⟨_, rfl⟩
            rw [← hZ]
            have KZ : Below wr.heap.size wr Z := by
              rw [hZ]
              exact (Below.refl _ _).drew
            have cZ := hkeep KZ c1
            have HOZ : Hid (OwnH Z w.heap.size u6 R) := HO.out.below KZ
            have HTZ : Hid (OwnS Z 0 (.slice (some ⟨g, 0, none⟩) n vc) (O.map hmk)) := HTx.out.below KZ
            have HBZ : Hid (Below w.heap.size w Z) := HB.out.trans (KZ.mono hz)
            have hzZ := HBZ.out.size
            have gj1 : (0 : Int) ≤ (j : Int) + 1 := by omega
            have gj2 : (j : Int) + 1 ≤ pb.size := by omega
            have gj3 : (j : Int) ≤ pb.size := by omega
            clear hZ KZ HO HTx HB c1
            refine wpAny_take (i := 0) (v := u6) rfl (by kernel_rfl) (by kernel_rfl) (by kernel_rfl) (fun _ _ _ h => h) (Or.inl ⟨by kernel_rfl, ?_⟩) ?_
            · intro w; go_simp
            refine wpAny_take (i := 1) (v := .slice (some ⟨g, 0, none⟩) n vc) rfl (by kernel_rfl) (by kernel_rfl) (by kernel_rfl) (fun _ _ _ h => h) (Or.inl ⟨by kernel_rfl, ?_⟩) ?_
            · intro w; go_simp
            refine wpAny_take (i := 2) (v := .int .i64 (k : Int)) rfl (by kernel_rfl) (by kernel_rfl) (by kernel_rfl) (fun _ _ _ h => h) (Or.inl ⟨by kernel_rfl, ?_⟩) ?_
            · intro w; go_simp
            refine wpAny_take (i := 3) (v := .pointer (some ⟨g, k, none⟩)) rfl (by kernel_rfl) (by kernel_rfl) (by kernel_rfl) (fun _ _ _ h => h) (Or.inl ⟨by kernel_rfl, ?_⟩) ?_
            · intro w; go_simp
            refine wpAny_take (i := 5) (v := .int .i64 (j : Int)) rfl (by kernel_rfl) (by kernel_rfl) (by kernel_rfl) (fun _ _ _ h => h) (Or.inl ⟨by kernel_rfl, ?_⟩) ?_
            · intro w; go_simp
            refine wpAny_take (i := 7) (v := .slice (some ⟨g, 0, none⟩) n vc) rfl (by kernel_rfl) (by kernel_rfl) (by kernel_rfl) (fun _ _ _ h => h) (Or.inl ⟨by kernel_rfl, ?_⟩) ?_
            · intro w; go_simp
            refine wpAny_take (i := 8) (v := .int .i64 (k : Int)) rfl (by kernel_rfl) (by kernel_rfl) (by kernel_rfl) (fun _ _ _ h => h) (Or.inl ⟨by kernel_rfl, ?_⟩) ?_
            · intro w; go_simp
            refine wpAny_take (i := 9) (v := .pointer (some ⟨g, k, none⟩)) rfl (by kernel_rfl) (by kernel_rfl) (by kernel_rfl) (fun _ _ _ h => h) (Or.inl ⟨by kernel_rfl, ?_⟩) ?_
            · intro w; go_simp
            refine wpAny_take (i := 11) (v := .int .i64 (j : Int)) rfl (by kernel_rfl) (by kernel_rfl) (by kernel_rfl) (fun _ _ _ h => h) (Or.inl ⟨by kernel_rfl, ?_⟩) ?_
            · intro w; go_simp
            refine wpAny_take (i := 12) (v := .int .i64 ((j : Int) + 1)) rfl (by kernel_rfl) (by kernel_rfl) (by kernel_rfl) (fun _ _ _ h => h) (Or.inl ⟨by kernel_rfl, ?_⟩) ?_
            · intro w; go_simp; rw [IntKind.wrap_i64]; omega
            refine wpAny_ready (rs := [4, 10]) (by kernel_rfl) (by simp) ?_
            refine AllReady.cons rfl (fun K hK => ?_) (AllReady.cons rfl (fun K hK => ?_) AllReady.nil)
            · go_simp
              refine hK _ _ ?_
              clear hK K
              refine wpAny_take (i := 6) (v := .string (pb.extract 0 j)) rfl (by kernel_rfl) (by kernel_rfl) (by kernel_rfl) (fun _ _ _ h => h) (Or.inl ⟨by kernel_rfl, ?_⟩) ?_
              · intro w; go_simp
              refine wpAny_ready (rs := [10]) (by kernel_rfl) (by simp) ?_
              refine AllReady.cons rfl (fun K hK => ?_) AllReady.nil
              go_simp
              refine hK _ _ ?_
              clear hK K
              refine wpAny_take (i := 13) (v := .string (pb.extract (j + 1) pb.size)) rfl (by kernel_rfl) (by kernel_rfl) (by kernel_rfl) (fun _ _ _ h => h) (Or.inl ⟨by kernel_rfl, ?_⟩) ?_
              · intro w; go_simp
              refine wpAny_ready (rs := [14]) (by kernel_rfl) (by simp) ?_
              refine AllReady.cons rfl (fun K hK => ?_) AllReady.nil
              go_simp
              go_wp2_with fail
              refine (HTR.out _).mono ?_
              rintro e wz ⟨rfl, rfl⟩
              refine hK _ _ ?_
              clear hK K
              refine wpAny_take (i := 15) (v := .agg #[.string (pb.extract 0 j), .string tv]) rfl (by kernel_rfl) (by kernel_rfl) (by kernel_rfl) (fun _ _ _ h => h) (Or.inl ⟨by kernel_rfl, ?_⟩) ?_
              · intro w; go_simp
              refine wpAny_seq3 (k := 16) (o1 := Oper.mk _ _ _ _ _ _) (o2 := Oper.mk _ _ _ _ _ _) (o3 := Oper.mk _ _ _ _ _ _) rfl rfl rfl rfl (by kernel_rfl) ?_
              go_wp2_with (at_builtin; refine wpList_append_hdr _ rfl (.tmp 49) (.tmp 65) rfl w.heap.size _ R (pb.extract 0 j) tv rfl rfl HOZ.out (by omega) hzZ ?_; intro v5 w5 HO5 hb5 hz5 hk5)
              go_roundw
              case rel => exact ⟨k + 1, R ++ [⟨pb.extract 0 j, tv⟩], by omega, by simp; omega, by go_num, HO5, HY.out, HBZ.out.trans hb5, hk5 _ _ _ HTZ.out⟩
              case measure => simp [intOf]; omega
            · go_simp
              refine hK _ _ ?_
              clear hK K
              refine wpAny_take (i := 13) (v := .string (pb.extract (j + 1) pb.size)) rfl (by kernel_rfl) (by kernel_rfl) (by kernel_rfl) (fun _ _ _ h => h) (Or.inl ⟨by kernel_rfl, ?_⟩) ?_
              · intro w; go_simp
              refine wpAny_ready (rs := [4, 14]) (by kernel_rfl) (by simp) ?_
              refine AllReady.cons rfl (fun K hK => ?_) (AllReady.cons rfl (fun K hK => ?_) AllReady.nil)
              · go_simp
                refine hK _ _ ?_
                clear hK K
                refine wpAny_take (i := 6) (v := .string (pb.extract 0 j)) rfl (by kernel_rfl) (by kernel_rfl) (by kernel_rfl) (fun _ _ _ h => h) (Or.inl ⟨by kernel_rfl, ?_⟩) ?_
                · intro w; go_simp
                refine wpAny_ready (rs := [14]) (by kernel_rfl) (by simp) ?_
                refine AllReady.cons rfl (fun K hK => ?_) AllReady.nil
                go_simp
                go_wp2_with fail
                refine (HTR.out _).mono ?_
                rintro e wz ⟨rfl, rfl⟩
                refine hK _ _ ?_
                clear hK K
                refine wpAny_take (i := 15) (v := .agg #[.string (pb.extract 0 j), .string tv]) rfl (by kernel_rfl) (by kernel_rfl) (by kernel_rfl) (fun _ _ _ h => h) (Or.inl ⟨by kernel_rfl, ?_⟩) ?_
                · intro w; go_simp
                refine wpAny_seq3 (k := 16) (o1 := Oper.mk _ _ _ _ _ _) (o2 := Oper.mk _ _ _ _ _ _) (o3 := Oper.mk _ _ _ _ _ _) rfl rfl rfl rfl (by kernel_rfl) ?_
                go_wp2_with (at_builtin; refine wpList_append_hdr _ rfl (.tmp 49) (.tmp 65) rfl w.heap.size _ R (pb.extract 0 j) tv rfl rfl HOZ.out (by omega) hzZ ?_; intro v5 w5 HO5 hb5 hz5 hk5)
                go_roundw
                case rel => exact ⟨k + 1, R ++ [⟨pb.extract 0 j, tv⟩], by omega, by simp; omega, by go_num, HO5, HY.out, HBZ.out.trans hb5, hk5 _ _ _ HTZ.out⟩
                case measure => simp [intOf]; omega
              · go_simp
                go_wp2_with fail
                refine (HTR.out _).mono ?_
                rintro e wz ⟨rfl, rfl⟩
                refine hK _ _ ?_
                clear hK K
                refine wpAny_ready (rs := [4]) (by kernel_rfl) (by simp) ?_
                refine AllReady.cons rfl (fun K hK => ?_) AllReady.nil
                go_simp
                refine hK _ _ ?_
                clear hK K
                refine wpAny_take (i := 6) (v := .string (pb.extract 0 j)) rfl (by kernel_rfl) (by kernel_rfl) (by kernel_rfl) (fun _ _ _ h => h) (Or.inl ⟨by kernel_rfl, ?_⟩) ?_
                · intro w; go_simp
                refine wpAny_take (i := 15) (v := .agg #[.string (pb.extract 0 j), .string tv]) rfl (by kernel_rfl) (by kernel_rfl) (by kernel_rfl) (fun _ _ _ h => h) (Or.inl ⟨by kernel_rfl, ?_⟩) ?_
                · intro w; go_simp
                refine wpAny_seq3 (k := 16) (o1 := Oper.mk _ _ _ _ _ _) (o2 := Oper.mk _ _ _ _ _ _) (o3 := Oper.mk _ _ _ _ _ _) rfl rfl rfl rfl (by kernel_rfl) ?_
                go_wp2_with (at_builtin; refine wpList_append_hdr _ rfl (.tmp 49) (.tmp 65) rfl w.heap.size _ R (pb.extract 0 j) tv rfl rfl HOZ.out (by omega) hzZ ?_; intro v5 w5 HO5 hb5 hz5 hk5)
                go_roundw
                case rel => exact ⟨k + 1, R ++ [⟨pb.extract 0 j, tv⟩], by omega, by simp; omega, by go_num, HO5, HY.out, HBZ.out.trans hb5, hk5 _ _ _ HTZ.out⟩
                case measure => simp [intOf]; omega
          · have hqj := o2 (fun e => h58 ((u8_58 _).1 e))
            have d58 : ((pb[j].toNat : Int) != 58) = true := by simpa using h58
            clear o1 o2
            go_wp2_with fail
            go_round
            case rel => exact ⟨j + 1, hqj, by go_num⟩
            case measure => simp [intOf]; omega
        · have hqj : q = j := by omega
          have gj : ¬ (j : Int) < pb.size := by omega
          have gd : decide ((j : Int) < pb.size) = false := by simpa using gj
          have gje : (j : Int) = pb.size := by omega
          have HX : Hid (readHC s = 5 ∧ readHL s = []) := R5.out (by rw [HT.out]; exact HD2.out (by omega))
          have hjq : j = pb.size := by omega
          subst hjq
          clear HD2 HD3 HON
          go_wp2_with fail
          go_ret2
          exact ⟨HReadRes.mk HX.out (OwnH.nil _ _), HB.out⟩
    · have HX : Hid (readT s.data.toList = some R) := by
        show _ = _
        rw [HT.out, HD.out, List.drop_of_length_le (by have := HN.out; omega)]
        simp [readLs]
      obtain ⟨ra, rc, hra, hin⟩ := HO.out.at
      subst hra
      have hRn : R.length ≤ 6000 := by omega
      have HF := specHFault_any wr ra rc R (by omega) hin
      clear HD HTx hin
      by_cases h0 : headsC R = 0
      · have HY : Hid (readHC s = 0 ∧ readHL s = R) := R0.out R HX.out h0
        rw [h0] at HF
        have HO2 : Hid (OwnH wr w.heap.size (.slice ra R.length rc) R) := HO.out
        clear HX h0 HO
        generalize R.length = rn at *
        go_wp2_with fail
        refine HF.mono ?_
        rintro e w2 ⟨rfl, hb2⟩
        have HB2 : Hid (Below w.heap.size w w2) := HB.out.trans (hb2.mono hz)
        have HO3 : Hid (OwnH w2 w.heap.size (.slice ra rn rc) R) := HO2.out.below hb2
        clear hb2 HB HO2 HF
        go_wp2_with fail
        go_ret2
        exact ⟨HReadRes.mk HY.out HO3.out, HB2.out⟩
      · have HY : Hid (readHC s = headsC R ∧ readHL s = []) := RF.out R HX.out h0
        generalize headsC R = fc at *
        clear HX HO
        generalize R.length = rn at *
        go_wp2_with fail
        refine HF.mono ?_
        rintro e w2 ⟨rfl, hb2⟩
        have HB2 : Hid (Below w.heap.size w w2) := HB.out.trans (hb2.mono hz)
        clear hb2 HB HF
        go_wp2_with fail
        go_ret2
        exact ⟨HReadRes.mk HY.out (OwnH.nil _ _), HB2.out⟩
end Go.Proofs.YthlenlijdlfdeaaDoor
