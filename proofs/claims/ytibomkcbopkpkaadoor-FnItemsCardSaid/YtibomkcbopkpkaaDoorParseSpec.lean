/-
  What the model's l2Parse and ParseItems answer.
-/
import Derived.Test.YtibomkcbopkpkaaDoorPiecesWalk
import Derived.Test.YtibomkcbopkpkaaDoorItemSpec
import Derived.Test.YtibomkcbopkpkaaDoorOwnItems
import Derived.Test.YtibomkcbopkpkaaDoorTrimSpec
namespace Go.Proofs.YtibomkcbopkpkaaDoor
open Go.ChangeShapes Go.WideShapes Go.ChangeAt Go.RowKit
theorem trim_le (s : ByteArray) : (trimT s).size ≤ s.size := by
  have h : (Lib.trimS s.data.toList [32, 9]).length ≤ s.data.toList.length := by
    unfold Lib.trimS Lib.trimLeftS Lib.trimRightS
    refine Nat.le_trans (List.dropWhile_sublist _).length_le ?_
    rw [List.length_reverse]
    refine Nat.le_trans (List.dropWhile_sublist _).length_le ?_
    rw [List.length_reverse]
    exact Nat.le_refl _
  have e : (trimT s).size = (Lib.trimS s.data.toList [32, 9]).length := by simp [trimT, ByteArray.size]
  rw [e]
  simpa using h
theorem pcs_small (n : Nat) : ∀ (l : List UInt8) (ins : Bool) (cur : List UInt8), l.length ≤ n → (∀ p ∈ pcs ins cur l, p.length ≤ cur.length + l.length) ∧ (pcs ins cur l).length ≤ l.length + 1 := by
  induction n with
  | zero => intro l ins cur h; have : l = [] := List.eq_nil_of_length_eq_zero (by omega); subst this; simp [pcs]
  | succ n ih =>
    intro l ins cur h
    rw [pcs_first l.length l ins cur (Nat.le_refl _)]
    split
    · rename_i hlt
      obtain ⟨h1, h2⟩ := ih (l.drop (peS ins l + 1)) false [] (by rw [List.length_drop]; omega)
      rw [List.length_drop] at h1 h2
      refine ⟨fun p hp => ?_, by simp only [List.length_cons]; omega⟩
      rcases List.mem_cons.1 hp with rfl | hp
      · simp only [List.length_append, List.length_take]; omega
      · have := h1 p hp; simp only [List.length_nil] at this; omega
    · refine ⟨fun p hp => ?_, by simp⟩
      have e : p = cur ++ l := by simpa using hp
      subst e; simp
theorem str_nil {t : ByteArray} (h : t.size = 0) : t = ⟨#[]⟩ := ByteArray.ext (Array.eq_empty_of_size_eq_zero h)
theorem str_some {v : ByteArray} (h : v.size ≠ 0) : v.toList.isEmpty = false := by
  rw [ByteArray.toList_eq]
  cases hh : v.data.toList with
  | nil => exact absurd (by have := congrArg List.length hh; simpa using this) h
  | cons c r => rfl
def ParseRes (s : ByteArray) (base : Nat) (e : Ending) (w : World) : Prop := ∃ v, e = .returned (.tuple #[v, .int .i64 (parseC s)]) ∧ OwnI w base v (parseL s)
theorem ParseRes.mk {s : ByteArray} {base : Nat} {w : World} {v : Value} {c : Int} {L : List Rec} (h : parseC s = c ∧ parseL s = L) (ho : OwnI w base v L) : ParseRes s base (.returned (.tuple #[v, .int .i64 c])) w := ⟨v, by rw [h.1], by rw [h.2]; exact ho⟩
set_option maxRecDepth 100000 in
set_option maxHeartbeats 8000000 in
theorem l2Parse_any (s : ByteArray) (w : World) (hs : ¬ 1000 < s.size) :
    Calls Tryd.prog 82 #[.string s] w fun e w' => ParseRes s w.heap.size e w' ∧ Below w.heap.size w w' := by
  obtain ⟨sm, sl⟩ := pcs_small s.data.toList.length s.data.toList false [] (Nat.le_refl _)
  rw [size_list] at sm sl
  simp only [List.length_nil, Nat.zero_add] at sm
  have R5 := @parse_bad s hs
  have R2 := fun L => @parse_many s L hs
  have R0 := fun L => @parse_ok s L hs
  have HP : ∀ w, Calls Tryd.prog 127 #[.string s] w fun e w' => (∃ g c, e = .returned (.slice (some ⟨g, 0, none⟩) (pcs false [] s.data.toList).length c) ∧ OwnS w' w.heap.size (.slice (some ⟨g, 0, none⟩) (pcs false [] s.data.toList).length c) ((pcs false [] s.data.toList).map mkB)) ∧ Below w.heap.size w w' := fun w => pieces_any s w (by omega)
  generalize pcs false [] s.data.toList = P at *
  have HSM : Hid (∀ p ∈ P, p.length ≤ s.size) := sm
  have HR5 : Hid (readP P = none → parseC s = 5 ∧ parseL s = []) := R5
  have HR2 : Hid (∀ L, readP P = some L → 20 < L.length → parseC s = 2 ∧ parseL s = []) := R2
  have HR0 : Hid (∀ L, readP P = some L → ¬ 20 < L.length → parseC s = 0 ∧ parseL s = L) := R0
  have HPP : Hid (∀ w, Calls Tryd.prog 127 #[.string s] w fun e w' => (∃ g c, e = .returned (.slice (some ⟨g, 0, none⟩) P.length c) ∧ OwnS w' w.heap.size (.slice (some ⟨g, 0, none⟩) P.length c) (P.map mkB)) ∧ Below w.heap.size w w') := HP
  clear sm R5 R2 R0 HP
  go_enter Tryd.func82, Tryd.ntmps82
  go_wp2_with fail
  refine (HPP.out _).mono ?_
  rintro e w1 ⟨⟨g, c, rfl, hat⟩, hb1⟩
  have HO1 : Hid (OwnI w1 w.heap.size (.slice (some ⟨w.heap.size, 0, none⟩) 0 0) []) := (OwnI.made0 w w.heap.size (Nat.le_refl _)).below hb1
  have HT : Hid (OwnS w1 0 (.slice (some ⟨g, 0, none⟩) P.length c) (P.map mkB)) := OwnS.lower hat (Nat.zero_le _)
  rw [World.size_alloc] at hb1
  have KB1 : Hid (Below w.heap.size w w1) := ((Below.refl _ _).alloc (Nat.le_refl _) _).trans (hb1.mono (Nat.le_succ _))
  generalize hn : P.length = n at *
  have HN : Hid (P.length = n) := hn
  clear hat hb1 HPP hn
  go_wp2_with fail
  go_loopw [4, 6] (fun v i wr => ∃ (k : Nat) (R : List Rec), k ≤ n ∧ R.length ≤ k ∧ i = .int .i64 k ∧ OwnI wr w.heap.size v R ∧ readP P = (readP (P.drop k)).map (R ++ ·) ∧ Below w.heap.size w wr ∧ OwnS wr 0 (.slice (some ⟨g, 0, none⟩) n c) (P.map mkB)) (fun _ i _ => n - (intOf i).toNat)
  case atStart => exact ⟨0, [], Nat.zero_le _, Nat.zero_le _, rfl, HO1.out, by simp, KB1.out, HT.out⟩
  case round =>
    obtain ⟨k, R, hk, hR, rfl, hown, hrd, hb, hat⟩ := hrel
    have HO : Hid (OwnI wr w.heap.size u4 R) := hown
    have HD : Hid (readP P = (readP (P.drop k)).map (R ++ ·)) := hrd
    have HB : Hid (Below w.heap.size w wr) := hb
    have HT : Hid (OwnS wr 0 (.slice (some ⟨g, 0, none⟩) n c) (P.map mkB)) := hat
    have hz := hb.size
    clear hown hrd hb hat HO1 KB1
    by_cases hlt : k < n
    · obtain ⟨p, hp⟩ : ∃ p, P[k]? = some p := ⟨P[k]'(by have := HN.out; omega), List.getElem?_eq_getElem _⟩
      have c1 : wr.cell? ⟨g, k, none⟩ = some (.string (mkB p)) := HT.out.texts k _ (by rw [List.getElem?_map, hp]; rfl)
      have hpz : (mkB p).size ≤ 1000 := by
        have h1 := HSM.out p (List.mem_of_getElem? hp)
        have h2 : (mkB p).size = p.length := by simp [mkB, ByteArray.size]
        omega
      have htz : (trimT (mkB p)).size ≤ 1000 := Nat.le_trans (trim_le _) hpz
      have hdr : P.drop k = p :: P.drop (k + 1) := by
        obtain ⟨hk2, rfl⟩ := List.getElem?_eq_some_iff.1 hp
        exact List.drop_eq_getElem_cons hk2
      have D1 : (trimT (mkB p)).size = 0 → readP P = (readP (P.drop (k + 1))).map (R ++ ·) := fun h => by rw [HD.out, hdr, readP_skip h]
      have D2 : (trimT (mkB p)).size ≠ 0 → readR (trimT (mkB p)) = none → readP P = none := fun h h2 => by rw [HD.out, hdr, readP_bad h h2]; rfl
      have D3 : ∀ r, (trimT (mkB p)).size ≠ 0 → readR (trimT (mkB p)) = some r → readP P = (readP (P.drop (k + 1))).map ((R ++ [r]) ++ ·) := fun r h h2 => by
        rw [HD.out, hdr, readP_take h h2, Option.map_map]
        congr 1
        funext x
        simp
      have gk : (k : Int) < n := by omega
      have LT := fun w => l1Trim_any (mkB p) w hpz
      clear hdr hp HD
      generalize trimT (mkB p) = t at *
      generalize mkB p = pb at *
      have HLT : Hid (∀ w, Calls Tryd.prog 59 #[.string pb] w fun e w' => e = .returned (.string t) ∧ w' = w) := LT
      clear LT
      by_cases ht0 : t.size = 0
      · have HX : Hid (readP P = (readP (P.drop (k + 1))).map (R ++ ·)) := D1 ht0
        have ht := str_nil ht0
        subst ht
        clear D1 D2 D3 ht0 htz
        go_wp2_with fail
        refine (HLT.out _).mono ?_
        rintro e w2 ⟨rfl, rfl⟩
        go_wp2_with fail
        go_roundw
        case rel => exact ⟨k + 1, R, by omega, by omega, by go_num, HO.out, HX.out, HB.out, HT.out⟩
        case measure => simp [intOf]; omega
      · have hte := str_some ht0
        have HD2 : Hid (readR t = none → readP P = none) := D2 ht0
        have HD3 : Hid (∀ r, readR t = some r → readP P = (readP (P.drop (k + 1))).map ((R ++ [r]) ++ ·)) := fun r => D3 r ht0
        clear D1 D2 D3 ht0
        go_wp2_with fail
        refine (HLT.out _).mono ?_
        rintro e w2 ⟨rfl, rfl⟩
        go_wp2_with fail
        refine (l2Item_any t _ htz).mono ?_
        rintro e w3 ⟨⟨r, b, rfl, y1, y2⟩, hb3⟩
        have HB3 : Hid (Below w.heap.size w w3) := HB.out.trans (hb3.mono hz)
        have hz3 := HB3.out.size
        have HO3 : Hid (OwnI w3 w.heap.size u4 R) := HO.out.below hb3
        have HT3 : Hid (OwnS w3 0 (.slice (some ⟨g, 0, none⟩) n c) (P.map mkB)) := HT.out.below hb3
        clear HB HO HT hb3 c1
        cases b
        · have HY := HR5.out (HD2.out (y2 rfl))
          have HYY : Hid (parseC s = 5 ∧ parseL s = []) := HY
          obtain ⟨rn, rh, rv⟩ := r
          clear y1 y2 HY HD2 HD3
          go_wp2_with fail
          go_ret2
          exact ⟨ParseRes.mk HYY.out (OwnI.nil _ _), HB3.out.alloc hz3 _⟩
        · have HY := HD3.out r (y1 rfl)
          have HYY : Hid (readP P = (readP (P.drop (k + 1))).map ((R ++ [r]) ++ ·)) := HY
          obtain ⟨rn, rh, rv⟩ := r
          clear y1 y2 HY HD2 HD3
          have HB4 : Hid (Below w.heap.size w (w3.alloc (.cells #[.string rn, .bool rh, .string rv] 80))) := HB3.out.alloc hz3 _
          have HO4 : Hid (OwnI (w3.alloc (.cells #[.string rn, .bool rh, .string rv] 80)) w.heap.size u4 R) := HO3.out.below ((Below.refl _ _).alloc (Nat.le_refl _) _)
          have HT4 : Hid (OwnS (w3.alloc (.cells #[.string rn, .bool rh, .string rv] 80)) 0 (.slice (some ⟨g, 0, none⟩) n c) (P.map mkB)) := HT3.out.below ((Below.refl _ _).alloc (Nat.le_refl _) _)
          have hz4 : w.heap.size ≤ (w3.alloc (.cells #[.string rn, .bool rh, .string rv] 80)).heap.size := HB4.out.size
          go_wp2_with (at_builtin; refine wpList_append_item _ rfl (.tmp 33) (.tmp 35) rfl w.heap.size _ R rn rh rv rfl (by simp [go_sem]) HO4.out (by omega) hz4 ?_; intro v5 w5 HO5 hb5 hz5 hk5)
          go_roundw
          case rel => exact ⟨k + 1, R ++ [⟨rn, rh, rv⟩], by omega, by simp; omega, by go_num, HO5, HYY.out, HB4.out.trans hb5, hk5 _ _ _ HT4.out⟩
          case measure => simp [intOf]; omega
    · have HX : Hid (readP P = some R) := by
        show _ = _
        rw [HD.out, List.drop_of_length_le (by have := HN.out; omega)]
        simp [readP]
      obtain ⟨ra, rc, rfl, _⟩ := HO.out.at
      have hRn : R.length ≤ 1001 := by omega
      clear HD
      by_cases hbig : 20 < R.length
      · have HY : Hid (parseC s = 2 ∧ parseL s = []) := HR2.out R HX.out hbig
        have gb : (20 : Int) < R.length := by omega
        clear HX
        go_wp2_with fail
        go_ret2
        exact ⟨ParseRes.mk HY.out (OwnI.nil _ _), HB.out⟩
      · have HY : Hid (parseC s = 0 ∧ parseL s = R) := HR0.out R HX.out hbig
        have gb : ¬ (20 : Int) < R.length := by omega
        clear HX
        go_wp2_with fail
        go_ret2
        exact ⟨ParseRes.mk HY.out HO.out, HB.out⟩
end Go.Proofs.YtibomkcbopkpkaaDoor
