/-
  Texts of one claim, one behind the other.
-/
import Derived.BigQuiet
import Derived.ChangeArms
import Derived.Deep.RegionHeld3
import Derived.Deep.RegionWith
import Derived.Lib.QuietBelow
import Derived.Maps.AppendAt
import Derived.Shelf.Small.Wraps
import Derived.Shelf.Sort.Plain
import Derived.Shelf.Strings.FieldsFuncAny
import Derived.Shelf.Strings.Split
import Derived.Sort.OwnSorted
import Derived.Stop.LaidErr
import Derived.Test.YtojcjpdgjohldaaGreatDoorRqB
/-
  What PackRequest and its model answer.
-/
namespace Go.Proofs.YtojcjpdgjohldaaGreatDoor
open Go.ChangeShapes Go.WideShapes Go.ChangeAt Go.RowKit
theorem two_put {w : World} {B : Nat} {u0 u1 v0 v1 : Value} (h : Two w B u0 u1) : Two ((w.setCell ⟨B, 0, none⟩ v0).setCell ⟨B, 1, none⟩ v1) B v0 v1 :=
  ⟨(two_set h.c0 h.c1).1, (two_set h.c0 h.c1).2, fun o => by rw [World.frozen?_setCell, World.frozen?_setCell]; exact h.fr o, by simpa using h.lt⟩
theorem BMine.put {w : World} {B g : Nat} {l : List UInt8} (h : BMine w g l) (v0 v1 : Value) (hne : B ≠ g) : BMine ((w.setCell ⟨B, 0, none⟩ v0).setCell ⟨B, 1, none⟩ v1) g l := by
  have ne : ∀ i o : Nat, (⟨B, i, none⟩ : Addr) ≠ ⟨g, o, none⟩ := fun i o e => hne (congrArg Addr.block e)
  refine ⟨fun i c hc => ?_, fun o ho => by rw [World.frozen?_setCell, World.frozen?_setCell]; exact h.free o ho, by simpa using h.lt⟩
  rw [World.cell?_setCell_other _ _ _ _ (ne _ _), World.cell?_setCell_other _ _ _ _ (ne _ _)]
  exact h.at0 i c hc
theorem method_size {m h p : ByteArray} (c : lineS m h p = true) : m.size ≤ 4 ∧ h.size ≤ 60 ∧ p.size ≤ 100 := by
  obtain ⟨h1, h2, h3⟩ := lineS_true c
  refine ⟨?_, (hostS_true h2).2.1, ?_⟩
  · simp only [methS, Bool.or_eq_true, decide_eq_true_eq] at h1
    rcases h1 with rfl | rfl <;> decide
  · simp only [pathS, Bool.and_eq_true, decide_eq_true_eq] at h3
    exact h3.1.2
def reqText (m h p : ByteArray) (t : ByteArray) : ByteArray := m ++ ⟨#[32]⟩ ++ p ++ ⟨#[32, 72, 84, 84, 80, 47, 49, 46, 49, 13, 10, 72, 111, 115, 116, 58, 32]⟩ ++ h ++ ⟨#[13, 10]⟩ ++ t ++ ⟨#[13, 10]⟩
theorem reqText_list (m h p : ByteArray) (l : List Hdr) : (reqText m h p ⟨(packL l).toArray⟩).data.toList = reqL m h p l := by
  simp only [reqText, reqL, packL_cons, lineL, hostT, verL, happ_list]
  simp
set_option maxRecDepth 100000 in
set_option maxHeartbeats 8000000 in
theorem specPackReq_any (w : World) (m h p : ByteArray) (a : Option Addr) (cap : Nat) (l : List Hdr) (hl : l.length ≤ 1048576) (hi : HdsIn w a l) :
    Calls Tryz.prog 36 #[.agg #[.string m, .string h, .string p, .slice a l.length cap]] w fun e w' => BGot (reqC m h p l) (reqB m h p l) w.heap.size e w' ∧ Below w.heap.size w w' := by
  obtain ⟨W, hW⟩ : ∃ W, W = (w.alloc (.cells #[.string m, .string h, .string p, .slice a l.length cap] 26)).alloc (.cells #[.int .i64 0, .slice none 0 0] 29) := ⟨_, rfl⟩
  have HW : Hid (W = (w.alloc (.cells #[.string m, .string h, .string p, .slice a l.length cap] 26)).alloc (.cells #[.int .i64 0, .slice none 0 0] 29)) := hW
  have bW : Below w.heap.size w W := by rw [hW]; exact ((Below.refl _ _).alloc (Nat.le_refl _) _).alloc (by simp) _
  have f0 : Four W w.heap.size (.string m) (.string h) (.string p) (.slice a l.length cap) := by rw [hW]; exact (Four.new _ _ _ _ _ _).keep ((Below.refl _ _).alloc (Nat.le_refl _) _)
  have t0 : Two W (w.heap.size + 1) (.int .i64 0) (.slice none 0 0) := by
    rw [hW]
    have := Two.new (w.alloc (.cells #[.string m, .string h, .string p, .slice a l.length cap] 26)) (.int .i64 0) (.slice none 0 0) 29
    simpa using this
  have C := specReq_any W m h p a cap l hl (hi.keep bW)
  have K0 : Hid (Below w.heap.size w W ∧ Four W w.heap.size (.string m) (.string h) (.string p) (.slice a l.length cap) ∧ Two W (w.heap.size + 1) (.int .i64 0) (.slice none 0 0)) := ⟨bW, f0, t0⟩
  have HI : Hid (∀ X, Below w.heap.size w X → HdsIn X a l) := fun X hb => hi.keep hb
  clear hW bW f0 t0 hi
  have hc3 := K0.out.2.1.c3
  rw [HW.out] at hc3
  go_enter Tryz.func36, Tryz.ntmps36
  go_wp2_with fail
  rw [← HW.out]
  refine C.mono ?_
  rintro e w1 ⟨rfl, hb1⟩
  have K1 : Hid (Below w.heap.size w w1 ∧ Four w1 w.heap.size (.string m) (.string h) (.string p) (.slice a l.length cap) ∧ Two w1 (w.heap.size + 1) (.int .i64 0) (.slice none 0 0)) := ⟨K0.out.1.trans (hb1.mono K0.out.1.size), K0.out.2.1.keep hb1, K0.out.2.2.keep hb1⟩
  clear C hb1 K0 HW hc3
  by_cases c0 : reqC m h p l = 0
  · have HB0 : Hid (reqB m h p l = reqL m h p l) := by show _ = _; rw [reqB, if_pos c0]
    obtain ⟨y1, y2, y3, y4⟩ := reqC_zero c0
    obtain ⟨z1, z2, z3⟩ := method_size y1
    obtain ⟨s1, s2⟩ := heads_sizes y2
    have HP : Hid (∀ X, Below w.heap.size w X → Calls Tryz.prog 99 #[.slice a l.length cap] X fun e w' => e = .returned (.string ⟨(packL l).toArray⟩) ∧ Below X.heap.size X w') := fun X hb => l4Pack_any X a cap l (by omega) (fun i r hr => by have := s2 i r hr; omega) (HI.out X hb)
    have hpl := packL_len y2
    obtain ⟨t, ht⟩ : ∃ t : ByteArray, t = ⟨(packL l).toArray⟩ := ⟨_, rfl⟩
    have hts : t.size ≤ 6000 := by rw [ht]; show (packL l).toArray.size ≤ 6000; rw [List.size_toArray]; omega
    have HT : Hid ((reqText m h p t).data.toList = reqL m h p l) := by show _ = _; rw [ht]; exact reqText_list m h p l
    rw [← ht] at HP
    have HTX : Hid (reqText m h p t = m ++ ⟨#[32]⟩ ++ p ++ ⟨#[32, 72, 84, 84, 80, 47, 49, 46, 49, 13, 10, 72, 111, 115, 116, 58, 32]⟩ ++ h ++ ⟨#[13, 10]⟩ ++ t ++ ⟨#[13, 10]⟩) := rfl
    rw [c0]
    have HC0 : Hid (reqC m h p l = 0) := c0
    clear ht y1 y2 y3 y4 s1 s2 hpl c0 HI
    generalize l.length = n at *
    have BW : Hid (Below w1.heap.size w1 w1.drew) := (Below.refl _ _).drew
    have HKS : Hid (∀ X, Below w1.heap.size w1 X → X.cell? ⟨w.heap.size, 0, none⟩ = some (.string m) ∧ X.cell? ⟨w.heap.size, 1, none⟩ = some (.string h) ∧ X.cell? ⟨w.heap.size, 2, none⟩ = some (.string p) ∧ X.cell? ⟨w.heap.size, 3, none⟩ = some (.slice a n cap)) := fun X hb => ⟨(K1.out.2.1.keep hb).c0, (K1.out.2.1.keep hb).c1, (K1.out.2.1.keep hb).c2, (K1.out.2.1.keep hb).c3⟩
    have HST : Hid (∀ (X : World) v0 v1, Below w1.heap.size w1 X → (fun X : World => X.cell? ⟨w.heap.size, 0, none⟩ = some (.string m) ∧ X.cell? ⟨w.heap.size, 1, none⟩ = some (.string h) ∧ X.cell? ⟨w.heap.size, 2, none⟩ = some (.string p) ∧ X.cell? ⟨w.heap.size, 3, none⟩ = some (.slice a n cap)) ((X.setCell ⟨w.heap.size + 1, 0, none⟩ v0).setCell ⟨w.heap.size + 1, 1, none⟩ v1)) := fun X v0 v1 hb => by
      have ne : ∀ i o : Nat, (⟨w.heap.size + 1, i, none⟩ : Addr) ≠ ⟨w.heap.size, o, none⟩ := fun i o e => by have := congrArg Addr.block e; simp only at this; omega
      have kk : ∀ o, ((X.setCell ⟨w.heap.size + 1, 0, none⟩ v0).setCell ⟨w.heap.size + 1, 1, none⟩ v1).cell? ⟨w.heap.size, o, none⟩ = X.cell? ⟨w.heap.size, o, none⟩ := fun o => by rw [World.cell?_setCell_other _ _ _ _ (ne _ _), World.cell?_setCell_other _ _ _ _ (ne _ _)]
      simp only [kk]
      exact ⟨(K1.out.2.1.keep hb).c0, (K1.out.2.1.keep hb).c1, (K1.out.2.1.keep hb).c2, (K1.out.2.1.keep hb).c3⟩
    obtain ⟨x1, hx1⟩ : ∃ x : ByteArray, x = m ++ ⟨#[32]⟩ := ⟨_, rfl⟩
    have sx1 : x1.size = (m).size + (⟨#[32]⟩ : ByteArray).size := by rw [hx1, ByteArray.size_append]
    obtain ⟨x2, hx2⟩ : ∃ x : ByteArray, x = x1 ++ p := ⟨_, rfl⟩
    have sx2 : x2.size = (x1).size + (p : ByteArray).size := by rw [hx2, ByteArray.size_append]
    obtain ⟨x3, hx3⟩ : ∃ x : ByteArray, x = x2 ++ ⟨#[32, 72, 84, 84, 80, 47, 49, 46, 49, 13, 10, 72, 111, 115, 116, 58, 32]⟩ := ⟨_, rfl⟩
    have sx3 : x3.size = (x2).size + (⟨#[32, 72, 84, 84, 80, 47, 49, 46, 49, 13, 10, 72, 111, 115, 116, 58, 32]⟩ : ByteArray).size := by rw [hx3, ByteArray.size_append]
    obtain ⟨x4, hx4⟩ : ∃ x : ByteArray, x = x3 ++ h := ⟨_, rfl⟩
    have sx4 : x4.size = (x3).size + (h : ByteArray).size := by rw [hx4, ByteArray.size_append]
    obtain ⟨x5, hx5⟩ : ∃ x : ByteArray, x = x4 ++ ⟨#[13, 10]⟩ := ⟨_, rfl⟩
    have sx5 : x5.size = (x4).size + (⟨#[13, 10]⟩ : ByteArray).size := by rw [hx5, ByteArray.size_append]
    obtain ⟨x6, hx6⟩ : ∃ x : ByteArray, x = x5 ++ t := ⟨_, rfl⟩
    have sx6 : x6.size = (x5).size + (t : ByteArray).size := by rw [hx6, ByteArray.size_append]
    obtain ⟨x7, hx7⟩ : ∃ x : ByteArray, x = x6 ++ ⟨#[13, 10]⟩ := ⟨_, rfl⟩
    have sx7 : x7.size = (x6).size + (⟨#[13, 10]⟩ : ByteArray).size := by rw [hx7, ByteArray.size_append]
    have lit1 : (⟨#[32]⟩ : ByteArray).size = 1 := rfl
    have lit2 : (⟨#[13, 10]⟩ : ByteArray).size = 2 := rfl
    have lit3 : (⟨#[32, 72, 84, 84, 80, 47, 49, 46, 49, 13, 10, 72, 111, 115, 116, 58, 32]⟩ : ByteArray).size = 17 := rfl
    have add1 : ∀ X, (Op.stringOp .add m ⟨#[32]⟩).run Tryz.prog X = .ok (.string x1) X := fun X => by rw [hx1]; exact run_string_add_sum X _ _ (by omega)
    have add2 : ∀ X, (Op.stringOp .add x1 p).run Tryz.prog X = .ok (.string x2) X := fun X => by rw [hx2]; exact run_string_add_sum X _ _ (by omega)
    have add3 : ∀ X, (Op.stringOp .add x2 ⟨#[32, 72, 84, 84, 80, 47, 49, 46, 49, 13, 10, 72, 111, 115, 116, 58, 32]⟩).run Tryz.prog X = .ok (.string x3) X := fun X => by rw [hx3]; exact run_string_add_sum X _ _ (by omega)
    have add4 : ∀ X, (Op.stringOp .add x3 h).run Tryz.prog X = .ok (.string x4) X := fun X => by rw [hx4]; exact run_string_add_sum X _ _ (by omega)
    have add5 : ∀ X, (Op.stringOp .add x4 ⟨#[13, 10]⟩).run Tryz.prog X = .ok (.string x5) X := fun X => by rw [hx5]; exact run_string_add_sum X _ _ (by omega)
    have add6 : ∀ X, (Op.stringOp .add x5 t).run Tryz.prog X = .ok (.string x6) X := fun X => by rw [hx6]; exact run_string_add_sum X _ _ (by omega)
    have add7 : ∀ X, (Op.stringOp .add x6 ⟨#[13, 10]⟩).run Tryz.prog X = .ok (.string x7) X := fun X => by rw [hx7]; exact run_string_add_sum X _ _ (by omega)
    have HX7 : Hid (x7 = reqText m h p t) := by show _ = _; rw [hx7, hx6, hx5, hx4, hx3, hx2, hx1]; rfl
    clear hx1 hx2 hx3 hx4 hx5 hx6 hx7 HTX lit1 lit2 lit3
    clear sx1 sx2 sx3 sx4 sx5 sx6 sx7 z1 z2 z3 hts
    go_wp2_with fail
    go_region_held (fun X => X.cell? ⟨w.heap.size, 0, none⟩ = some (.string m) ∧ X.cell? ⟨w.heap.size, 1, none⟩ = some (.string h) ∧ X.cell? ⟨w.heap.size, 2, none⟩ = some (.string p) ∧ X.cell? ⟨w.heap.size, 3, none⟩ = some (.slice a n cap))
      (first | exact HST.out _ _ _ BX.out | exact HKS.out _ BX.out | exact HKS.out _ BA.out | exact HKS.out _ BW.out)
      (first
      | (go_at_call 99; refine (HP.out _ (K1.out.1.trans (BW.out.mono K1.out.1.size))).mono ?_; rintro e wa ⟨rfl, hba⟩; have BA : Hid (Below w1.heap.size w1 wa) := BW.out.trans (hba.mono BW.out.size); clear hba; obtain ⟨C, kc, hcv, hbm⟩ := bytes_of_text wa x7; obtain ⟨X, hX⟩ : ∃ X, X = wa.drew.alloc (.cells C 5 (C.size, C.size + 1)) := ⟨_, rfl⟩; have HX : Hid (Below wa.heap.size wa X) := (by rw [hX]; exact ((Below.refl _ _).drew).alloc (Nat.le_refl _) _); rw [← hX] at hcv hbm; have HM : Hid (BMine X wa.heap.size x7.data.toList) := hbm; clear hbm hX; have BX : Hid (Below w1.heap.size w1 X) := BA.out.trans (HX.out.mono BA.out.size); obtain ⟨r0, r1, rf, _⟩ := K1.out.2.2.keep BX.out; have rf0 := rf 0; have rf1 := rf 1; clear rf))
    all_goals
      (go_wp2_with fail
       have T2 := two_put (v0 := .int .i64 0) (v1 := .slice (some ⟨wa.heap.size, 0, none⟩) x7.size kc) (K1.out.2.2.keep BX.out)
       have hw1 : w.heap.size + 1 < w1.heap.size := K1.out.2.2.lt
       have bx0 := K1.out.1.trans (BX.out.mono K1.out.1.size)
       have e7 : reqL m h p l = x7.data.toList := by rw [HX7.out]; exact HT.out.symm
       refine bodyPost_ret (v := .agg #[.int .i64 0, .slice (some ⟨wa.heap.size, 0, none⟩) x7.size kc]) (by simp [results, Tryz.results36, go_sem, T2.c0, T2.c1]) rfl ⟨⟨_, _, _, (by rw [HC0.out]), .inr ⟨wa.heap.size, kc, ?_, ?_, ?_⟩⟩, (bx0.setCell (by simp) _).setCell (by simp) _⟩
       · rw [HB0.out, e7]; congr 1
       · exact Nat.le_trans K1.out.1.size BA.out.size
       · rw [HB0.out, e7]
         exact HM.out.put _ _ (by have := BA.out.size; omega))
  · have HB0 : Hid (reqB m h p l = []) := by show _ = _; rw [reqB, if_neg c0]
    have HF : Hid (∀ e w', e = .returned (.agg #[.int .i64 (reqC m h p l), .slice none 0 0]) → BGot (reqC m h p l) (reqB m h p l) w.heap.size e w') := fun e w' he => by subst he; rw [HB0.out]; exact BGot.nil _ _ _
    obtain ⟨t0, t1, tf, _⟩ := K1.out.2.2
    have tf0 := tf 0
    have tf1 := tf 1
    have HB1 : Hid (Below w.heap.size w w1) := K1.out.1
    have T2 : Hid (Two ((w1.setCell ⟨w.heap.size + 1, 0, none⟩ (.int .i64 (reqC m h p l))).setCell ⟨w.heap.size + 1, 1, none⟩ (.slice none 0 0)) (w.heap.size + 1) (.int .i64 (reqC m h p l)) (.slice none 0 0)) := two_put K1.out.2.2
    clear K1 HI HB0 tf
    obtain ⟨c, hcc⟩ : ∃ c, reqC m h p l = c := ⟨_, rfl⟩
    obtain ⟨bb, hbb⟩ : ∃ bb, reqB m h p l = bb := ⟨_, rfl⟩
    have HCC : Hid (reqC m h p l = c ∧ reqB m h p l = bb) := ⟨hcc, hbb⟩
    rw [hcc] at HF T2 c0 ⊢
    rw [hbb] at HF
    clear hcc hbb
    generalize l.length = n at *
    go_wp2_with fail
    exact bodyPost_ret (v := .agg #[.int .i64 c, .slice none 0 0]) (by simp [results, Tryz.results36, go_sem, T2.out.c0, T2.out.c1]) rfl ⟨by rw [HCC.out.1, HCC.out.2]; exact HF.out _ _ rfl, (HB1.out.setCell (by simp) _).setCell (by simp) _⟩
end Go.Proofs.YtojcjpdgjohldaaGreatDoor
/-
  What the model's l1Cut answers, at longer texts.
-/
namespace Go.Proofs.YtojcjpdgjohldaaGreatDoor
open Go.ChangeShapes Go.WideShapes Go.ChangeAt Go.RowKit
set_option maxRecDepth 100000 in
set_option maxHeartbeats 8000000 in
theorem l1CutW_any (s : ByteArray) (c : UInt8) (w : World) (hs : s.size ≤ 10100) :
    Calls Tryz.prog 132 #[.string s, .int .u8 (c.toNat : Int)] w fun e w' => CutRes (cutG c [] s.data.toList) w.heap.size e w' ∧ Below w.heap.size w w' := by
  go_enter Tryz.func132, Tryz.ntmps132
  go_wp2_with fail
  go_loopw [5, 6, 7] (fun v fr i wr => ∃ (O : List (List UInt8)) (f k : Nat), fr = .int .i64 (f : Int) ∧ i = .int .i64 (k : Int) ∧ (CtAt s c O f k ∨ (k = s.size + 1 ∧ cutG c [] s.data.toList = O)) ∧ OwnS wr w.heap.size v (O.map hmk) ∧ Below w.heap.size w wr) (fun _ _ i _ => s.size + 1 - (intOf i).toNat)
  case atStart => exact ⟨[], 0, 0, rfl, rfl, .inl (CtAt.start s c), ownS_made0 w w.heap.size (Nat.le_refl _), (Below.refl _ _).alloc (Nat.le_refl _) _⟩
  case round =>
    obtain ⟨O, f, k, rfl, rfl, hL, ho, hb⟩ := hrel
    have HO : Hid (OwnS wr w.heap.size u5 (O.map hmk)) := ho
    have hzb := hb.size
    clear ho
    rcases hL with hL | ⟨hk, hL⟩
    · have HL : Hid (CtAt s c O f k) := hL
      have hfk := hL.fk
      have hks := hL.ks
      have hol := hL.ol
      clear hL
      have g0 : (k : Int) ≤ s.size := by omega
      have gf0 : (0 : Int) ≤ f := by omega
      have gfk : (f : Int) ≤ k := by omega
      have HE : Hid (s.extract f k = hmk ((s.data.toList.drop f).take (k - f))) := hext_mk s f k
      have HM : Hid ((O ++ [(s.data.toList.drop f).take (k - f)]).map hmk = O.map hmk ++ [s.extract f k]) := by show _ = _; rw [List.map_append, HE.out]; rfl
      have hml : (O.map hmk).length ≤ 10100 := by rw [List.length_map]; omega
      by_cases hlt : k < s.size
      · have de : ((k : Int) == (s.size : Int)) = false := by simp; omega
        by_cases hc : s[k] = c
        · have HN : Hid (CtAt s c (O ++ [(s.data.toList.drop f).take (k - f)]) (k + 1) (k + 1)) := HL.out.hit hlt hc
          have dc : ((s[k].toNat : Int) == (c.toNat : Int)) = true := by rw [hc]; simp
          clear HL hc HE
          generalize O.map hmk = OM at *
          go_wp2_with (at_builtin; refine wpList_append_str _ rfl (.tmp 26) (.tmp 31) rfl w.heap.size _ OM (s.extract f k) rfl rfl HO.out (by omega) hzb ?_; intro v4 w4 HO4 hb4 hz4)
          go_roundw
          case rel => exact ⟨_, k + 1, k + 1, by go_num, by go_num, .inl HN.out, by rw [HM.out]; exact HO4, hb.trans hb4⟩
          case measure => simp [intOf]; omega
        · have HN : Hid (CtAt s c O f (k + 1)) := HL.out.on hlt hc
          have dc : ((s[k].toNat : Int) == (c.toNat : Int)) = false := by
            rw [beq_eq_false_iff_ne]
            intro e
            exact hc (UInt8.toNat_inj.1 (by omega))
          clear HL hc HE HM
          go_wp2_with fail
          go_roundw
          case rel => exact ⟨O, f, k + 1, rfl, by go_num, .inl HN.out, HO.out, hb⟩
          case measure => simp [intOf]; omega
      · have ek : k = s.size := by omega
        subst ek
        have HN : Hid (cutG c [] s.data.toList = O ++ [(s.data.toList.drop f).take (s.size - f)]) := HL.out.last
        have de : ((s.size : Int) == (s.size : Int)) = true := by simp
        clear HL HE
        generalize O.map hmk = OM at *
        go_wp2_with (at_builtin; refine wpList_append_str _ rfl (.tmp 26) (.tmp 31) rfl w.heap.size _ OM (s.extract f s.size) rfl rfl HO.out (by omega) hzb ?_; intro v4 w4 HO4 hb4 hz4)
        go_roundw
        case rel => exact ⟨_, s.size + 1, s.size + 1, by go_num, by go_num, .inr ⟨rfl, HN.out⟩, by rw [HM.out]; exact HO4, hb.trans hb4⟩
        case measure => simp [intOf]
    · have g0 : ¬ (k : Int) ≤ s.size := by omega
      have HL : Hid (cutG c [] s.data.toList = O) := hL
      clear hL
      go_wp2_with fail
      go_ret
      exact ⟨⟨_, rfl, by rw [HL.out]; exact HO.out⟩, hb⟩
end Go.Proofs.YtojcjpdgjohldaaGreatDoor
/-
  What PackRequest answers.
-/
namespace Go.Proofs.YtojcjpdgjohldaaGreatDoor
open Go.ChangeShapes Go.WideShapes Go.ChangeAt Go.RowKit
theorem hdrsW_cells {w : World} {b off : Nat} {l : List Hdr} (h : HeadsAt w b off l) : ∀ j u, (hdrsW l)[j]? = some u → w.cell? ((⟨b, off, none⟩ : Addr).add j) = some u := by
  intro j u hj
  have hadd : (⟨b, off, none⟩ : Addr).add j = ⟨b, off + j, none⟩ := by unfold Addr.add; split <;> simp_all
  rw [hadd]
  have hlt : j < (hdrsW l).length := (List.getElem?_eq_some_iff.1 hj).1
  rw [hdrsW_len] at hlt
  obtain ⟨r, hr⟩ : ∃ r, l[j / 2]? = some r := ⟨l[j / 2]'(by omega), List.getElem?_eq_getElem _⟩
  obtain ⟨e0, e1⟩ := hdrsW_at l (j / 2) r hr
  obtain ⟨c0, c1⟩ := h (j / 2) r hr
  rcases Nat.mod_two_eq_zero_or_one j with hm | hm
  · have ej : j / 2 * 2 = j := by omega
    rw [ej] at e0 c0
    rw [e0] at hj
    rw [← hj]; exact c0
  · have ej : j / 2 * 2 + 1 = j := by omega
    rw [ej] at e1
    rw [Nat.add_assoc, ej] at c1
    rw [e1] at hj
    rw [← hj]; exact c1
theorem Four.keepB {W W' : World} {B base : Nat} {v0 v1 v2 v3 : Value} (h : Four W B v0 v1 v2 v3) (hB : B < base) (hb : Below base W W') : Four W' B v0 v1 v2 v3 :=
  ⟨by rw [hb.cell (p := ⟨B, 0, none⟩) hB]; exact h.c0, by rw [hb.cell (p := ⟨B, 1, none⟩) hB]; exact h.c1, by rw [hb.cell (p := ⟨B, 2, none⟩) hB]; exact h.c2, by rw [hb.cell (p := ⟨B, 3, none⟩) hB]; exact h.c3,
    fun o => by rw [hb.frozen (p := ⟨B, o, none⟩) hB]; exact h.fr o, Nat.lt_of_lt_of_le h.lt hb.size⟩
theorem Two.keepB {W W' : World} {B base : Nat} {v0 v1 : Value} (h : Two W B v0 v1) (hB : B < base) (hb : Below base W W') : Two W' B v0 v1 :=
  ⟨by rw [hb.cell (p := ⟨B, 0, none⟩) hB]; exact h.c0, by rw [hb.cell (p := ⟨B, 1, none⟩) hB]; exact h.c1, fun o => by rw [hb.frozen (p := ⟨B, o, none⟩) hB]; exact h.fr o, Nat.lt_of_lt_of_le h.lt hb.size⟩
theorem hdrsW_one (l : List Hdr) : ∀ u ∈ hdrsW l, u.oneCell' = true := by
  intro u hu
  simp only [hdrsW, List.mem_flatMap] at hu
  obtain ⟨r, _, hr⟩ := hu
  simp only [hdrW, List.mem_cons, List.not_mem_nil, or_false] at hr
  rcases hr with rfl | rfl <;> rfl
theorem wpList_append_hdrs {ops : Array Oper} {rest : List Oper} {o : Oper} {a : Act} {Q : Exit → Act → World → Prop} (w : World) (hgd : o.guard = none) (s x : Operand)
    (ho : o.op = .call { callee := .builtin .append, args := #[s, x], argTypes := #[24, 24] }) (base : Nat) (v : Value) (l0 : List Hdr) (b off cap : Nat) (l : List Hdr)
    (hs : a.eval s = v) (hx : a.eval x = .slice (some ⟨b, off, none⟩) l.length cap) (hown : OwnH w base v l0) (hat : HeadsAt w b off l) (hl : l0.length + l.length ≤ 1000000) (hbase : base ≤ w.heap.size)
    (h : ∀ v' w', OwnH w' base v' (l0 ++ l) → Below base w w' → w.heap.size ≤ w'.heap.size → wpList Tryz.prog ops Q rest (a.put o.dst v') w') :
    wpList Tryz.prog ops Q (o :: rest) a w := by
  obtain ⟨i0, hi, hz0, hz1, hz2⟩ := info_parts infoHeader
  refine wpList_append_own _ hgd s x 24 ho base 84 i0 (.agg #[.string ⟨#[]⟩, .string ⟨#[]⟩]) 2 32 Tryz.underlying24 hi hz0 hz1 hz2 rfl (by decide) v l0.length (hdrsW l0) hs hown ⟨b, off, none⟩ l.length cap (hdrsW l) hx (hdrsW_len l) (hdrsW_cells hat) (hdrsW_one l) ?_ ?_ hbase ?_
  · unfold maxLen; omega
  · omega
  · intro v' w' h1 h2 h3
    have e : hdrsW (l0 ++ l) = hdrsW l0 ++ hdrsW l := by simp [hdrsW]
    refine h v' w' (by unfold OwnH; rw [e, List.length_append]; exact h1) ?_ ?_
    · exact (Below.refl base w).grown h2 hbase (fun q hq => own_geH hown q hq)
    · exact ((Below.refl 0 w).grown h2 (Nat.zero_le _) (fun q _ => Nat.zero_le _)).size
theorem OwnH.one (w : World) (n z : ByteArray) : OwnH (w.alloc (.cells #[.string n, .string z] 84)) w.heap.size (.slice (some ⟨w.heap.size, 0, none⟩) 1 1) [⟨n, z⟩] :=
  ⟨rfl, .inr ⟨w.heap.size, 1, #[.string n, .string z], rfl, Nat.le_refl _, heap_alloc_new _ _, by simp, by unfold maxLen; omega, by simp, by simp [hdrsW, hdrW]⟩⟩
set_option maxRecDepth 100000 in
set_option maxHeartbeats 8000000 in
theorem implPackReq_at (E : Errs) (w : World) (m h p : ByteArray) (b off cap : Nat) (l : List Hdr) (hl : l.length ≤ 1048576) (hcap : l.length ≤ cap) (hps : p.size ≤ 1048576) (hset : SetIs w) (hE : ErrsIs w E) (hat : HeadsAt w b off l) :
    Calls Tryz.prog 14 #[.agg #[.string m, .string h, .string p, .slice (some ⟨b, off, none⟩) l.length cap]] w fun e w' => BGot (reqC m h p l) (reqB m h p l) w.heap.size e w' ∧ Below w.heap.size w w' := by
  obtain ⟨W, hW⟩ : ∃ W, W = (w.alloc (.cells #[.string m, .string h, .string p, .slice (some ⟨b, off, none⟩) l.length cap] 26)).alloc (.cells #[.int .i64 0, .slice none 0 0] 29) := ⟨_, rfl⟩
  have HW : Hid (W = (w.alloc (.cells #[.string m, .string h, .string p, .slice (some ⟨b, off, none⟩) l.length cap] 26)).alloc (.cells #[.int .i64 0, .slice none 0 0] 29)) := hW
  have bW : Below w.heap.size w W := by rw [hW]; exact ((Below.refl _ _).alloc (Nat.le_refl _) _).alloc (by simp) _
  have f0 : Four W w.heap.size (.string m) (.string h) (.string p) (.slice (some ⟨b, off, none⟩) l.length cap) := by rw [hW]; exact (Four.new _ _ _ _ _ _).keep ((Below.refl _ _).alloc (Nat.le_refl _) _)
  have t0 : Two W (w.heap.size + 1) (.int .i64 0) (.slice none 0 0) := by
    rw [hW]
    have := Two.new (w.alloc (.cells #[.string m, .string h, .string p, .slice (some ⟨b, off, none⟩) l.length cap] 26)) (.int .i64 0) (.slice none 0 0) 29
    simpa using this
  have C := implReq_any E W m h p _ cap l hl hcap hps (hset.below bW) (hE.below bW) (.inr ⟨b, off, rfl, hat.keep bW⟩)
  have K0 : Hid (Below w.heap.size w W ∧ Four W w.heap.size (.string m) (.string h) (.string p) (.slice (some ⟨b, off, none⟩) l.length cap) ∧ Two W (w.heap.size + 1) (.int .i64 0) (.slice none 0 0)) := ⟨bW, f0, t0⟩
  have HI : Hid (∀ X, Below w.heap.size w X → HeadsAt X b off l ∧ SetIs X) := fun X hb => ⟨hat.keep hb, hset.below hb⟩
  clear hW bW f0 t0 hat hset hE
  have hc3 := K0.out.2.1.c3
  rw [HW.out] at hc3
  go_enter Tryz.func14, Tryz.ntmps14
  go_wp2_with fail
  rw [← HW.out]
  refine C.mono ?_
  rintro e w1 ⟨rfl, hb1⟩
  have K1 : Hid (Below w.heap.size w w1 ∧ Four w1 w.heap.size (.string m) (.string h) (.string p) (.slice (some ⟨b, off, none⟩) l.length cap) ∧ Two w1 (w.heap.size + 1) (.int .i64 0) (.slice none 0 0)) := ⟨K0.out.1.trans (hb1.mono K0.out.1.size), K0.out.2.1.keep hb1, K0.out.2.2.keep hb1⟩
  clear C hb1 K0 HW hc3
  by_cases c0 : reqC m h p l = 0
  · have HB0 : Hid (reqB m h p l = reqL m h p l) := by show _ = _; rw [reqB, if_pos c0]
    obtain ⟨y1, y2, y3, y4⟩ := reqC_zero c0
    obtain ⟨z1, z2, z3⟩ := method_size y1
    have HHL : Hid (headsC (⟨hostT, h⟩ :: l) = 0) := host_heads (lineS_true y1).2.1 y2 y4
    have hpl := packL_len HHL.out
    obtain ⟨t, ht⟩ : ∃ t : ByteArray, t = ⟨(packL (⟨hostT, h⟩ :: l)).toArray⟩ := ⟨_, rfl⟩
    have hts : t.size ≤ 6000 := by
      rw [ht]; show (packL (⟨hostT, h⟩ :: l)).toArray.size ≤ 6000; rw [List.size_toArray]
      simp only [List.length_cons] at hpl; omega
    have HP : Hid (∀ X v, Below w.heap.size w X → OwnH X w1.heap.size v (⟨hostT, h⟩ :: l) → Calls Tryz.prog 64 #[v] X fun e w' => e = .returned (.agg #[.int .i64 0, .string t]) ∧ Below X.heap.size X w') := fun X v hb ho => by
      obtain ⟨a', c', e', hi'⟩ := ho.at
      rw [e', ht]
      exact implPack_ok X a' c' _ HHL.out (HI.out X hb).2 hi'
    have HTL : Hid (∀ x : ByteArray, x = m ++ ⟨#[32]⟩ ++ p ++ ⟨#[32]⟩ ++ ⟨#[72, 84, 84, 80, 47, 49, 46, 49]⟩ ++ ⟨#[13, 10]⟩ ++ t ++ ⟨#[13, 10]⟩ → x.data.toList = reqL m h p l) := fun x hx => by
      rw [hx, ht]
      simp only [reqL, verL, happ_list]
    obtain ⟨x1, hx1⟩ : ∃ x : ByteArray, x = m ++ ⟨#[32]⟩ := ⟨_, rfl⟩
    have sx1 : x1.size = (m).size + (⟨#[32]⟩ : ByteArray).size := by rw [hx1, ByteArray.size_append]
    obtain ⟨x2, hx2⟩ : ∃ x : ByteArray, x = x1 ++ p := ⟨_, rfl⟩
    have sx2 : x2.size = (x1).size + (p : ByteArray).size := by rw [hx2, ByteArray.size_append]
    obtain ⟨x3, hx3⟩ : ∃ x : ByteArray, x = x2 ++ ⟨#[32]⟩ := ⟨_, rfl⟩
    have sx3 : x3.size = (x2).size + (⟨#[32]⟩ : ByteArray).size := by rw [hx3, ByteArray.size_append]
    obtain ⟨x4, hx4⟩ : ∃ x : ByteArray, x = x3 ++ ⟨#[72, 84, 84, 80, 47, 49, 46, 49]⟩ := ⟨_, rfl⟩
    have sx4 : x4.size = (x3).size + (⟨#[72, 84, 84, 80, 47, 49, 46, 49]⟩ : ByteArray).size := by rw [hx4, ByteArray.size_append]
    obtain ⟨x5, hx5⟩ : ∃ x : ByteArray, x = x4 ++ ⟨#[13, 10]⟩ := ⟨_, rfl⟩
    have sx5 : x5.size = (x4).size + (⟨#[13, 10]⟩ : ByteArray).size := by rw [hx5, ByteArray.size_append]
    obtain ⟨x6, hx6⟩ : ∃ x : ByteArray, x = x5 ++ t := ⟨_, rfl⟩
    have sx6 : x6.size = (x5).size + (t : ByteArray).size := by rw [hx6, ByteArray.size_append]
    obtain ⟨x7, hx7⟩ : ∃ x : ByteArray, x = x6 ++ ⟨#[13, 10]⟩ := ⟨_, rfl⟩
    have sx7 : x7.size = (x6).size + (⟨#[13, 10]⟩ : ByteArray).size := by rw [hx7, ByteArray.size_append]
    have lit1 : (⟨#[32]⟩ : ByteArray).size = 1 := rfl
    have lit2 : (⟨#[13, 10]⟩ : ByteArray).size = 2 := rfl
    have lit3 : (⟨#[72, 84, 84, 80, 47, 49, 46, 49]⟩ : ByteArray).size = 8 := rfl
    have add1 : ∀ X, (Op.stringOp .add m ⟨#[32]⟩).run Tryz.prog X = .ok (.string x1) X := fun X => by rw [hx1]; exact run_string_add_sum X _ _ (by omega)
    have add2 : ∀ X, (Op.stringOp .add x1 p).run Tryz.prog X = .ok (.string x2) X := fun X => by rw [hx2]; exact run_string_add_sum X _ _ (by omega)
    have add3 : ∀ X, (Op.stringOp .add x2 ⟨#[32]⟩).run Tryz.prog X = .ok (.string x3) X := fun X => by rw [hx3]; exact run_string_add_sum X _ _ (by omega)
    have add4 : ∀ X, (Op.stringOp .add x3 ⟨#[72, 84, 84, 80, 47, 49, 46, 49]⟩).run Tryz.prog X = .ok (.string x4) X := fun X => by rw [hx4]; exact run_string_add_sum X _ _ (by omega)
    have add5 : ∀ X, (Op.stringOp .add x4 ⟨#[13, 10]⟩).run Tryz.prog X = .ok (.string x5) X := fun X => by rw [hx5]; exact run_string_add_sum X _ _ (by omega)
    have add6 : ∀ X, (Op.stringOp .add x5 t).run Tryz.prog X = .ok (.string x6) X := fun X => by rw [hx6]; exact run_string_add_sum X _ _ (by omega)
    have add7 : ∀ X, (Op.stringOp .add x6 ⟨#[13, 10]⟩).run Tryz.prog X = .ok (.string x7) X := fun X => by rw [hx7]; exact run_string_add_sum X _ _ (by omega)
    have HX7 : Hid (x7.data.toList = reqL m h p l) := HTL.out x7 (by rw [hx7, hx6, hx5, hx4, hx3, hx2, hx1])
    clear hx1 hx2 hx3 hx4 hx5 hx6 hx7 lit1 lit2 lit3 sx1 sx2 sx3 sx4 sx5 sx6 sx7 HTL z1 z2 z3 hts
    have r1 := K1.out.2.1.c1
    have aA : Below w1.heap.size w1 (w1.alloc (.cells #[.string ⟨#[72, 111, 115, 116]⟩, .string h] 84)) := (Below.refl _ _).alloc (Nat.le_refl _) _
    have KA : Hid (Below w.heap.size w (w1.alloc (.cells #[.string ⟨#[72, 111, 115, 116]⟩, .string h] 84)) ∧ Four (w1.alloc (.cells #[.string ⟨#[72, 111, 115, 116]⟩, .string h] 84)) w.heap.size (.string m) (.string h) (.string p) (.slice (some ⟨b, off, none⟩) l.length cap) ∧ Two (w1.alloc (.cells #[.string ⟨#[72, 111, 115, 116]⟩, .string h] 84)) (w.heap.size + 1) (.int .i64 0) (.slice none 0 0)) := ⟨K1.out.1.trans (aA.mono K1.out.1.size), K1.out.2.1.keep aA, K1.out.2.2.keep aA⟩
    have r3 := KA.out.2.1.c3
    clear aA
    have HL1 : Hid (w.heap.size + 1 < w1.heap.size) := K1.out.2.2.lt
    have HA1 : Hid (HeadsAt (w1.alloc (.cells #[.string ⟨#[72, 111, 115, 116]⟩, .string h] 84)) b off l) := (HI.out _ K1.out.1).1.keep ((Below.refl _ _).alloc (Nat.le_refl _) _)
    have HO1 : Hid (OwnH (w1.alloc (.cells #[.string ⟨#[72, 111, 115, 116]⟩, .string h] 84)) w1.heap.size (.slice (some ⟨w1.heap.size, 0, none⟩) 1 1) [⟨hostT, h⟩]) := OwnH.one w1 hostT h
    rw [c0]
    have HC0 : Hid (reqC m h p l = 0) := c0
    clear ht y1 y2 y3 c0
    have hln : l.length ≤ 1000 := by omega
    go_wp2_with (at_builtin; refine wpList_append_hdrs _ rfl (.tmp 15) (.tmp 17) rfl w1.heap.size (.slice (some ⟨w1.heap.size, 0, none⟩) 1 1) [⟨hostT, h⟩] b off cap l rfl rfl HO1.out HA1.out (by simp only [List.length_cons, List.length_nil]; omega) (by simp) ?_; intro v2 w2 ho2 hb2 hs2; have K2 : Hid ((Below w.heap.size w w2 ∧ Four w2 w.heap.size (.string m) (.string h) (.string p) (.slice (some ⟨b, off, none⟩) l.length cap) ∧ Two w2 (w.heap.size + 1) (.int .i64 0) (.slice none 0 0)) ∧ OwnH w2 w1.heap.size v2 (⟨hostT, h⟩ :: l)) := ⟨⟨KA.out.1.trans (hb2.mono (by have := HL1.out; omega)), KA.out.2.1.keepB (by have := HL1.out; omega) hb2, KA.out.2.2.keepB HL1.out hb2⟩, ho2⟩; obtain ⟨s0, s1, s2, s3, _, _⟩ := K2.out.1.2.1; clear ho2 hb2 hs2 r1 r3 s1 s3)
    have C6 := HP.out w2 v2 K2.out.1.1 K2.out.2
    clear HP HO1 HA1 KA K1
    refine C6.mono ?_
    rintro e w3 ⟨rfl, hb3⟩
    have K3 : Hid (Below w.heap.size w w3 ∧ Two w3 (w.heap.size + 1) (.int .i64 0) (.slice none 0 0)) := ⟨K2.out.1.1.trans (hb3.mono K2.out.1.1.size), K2.out.1.2.2.keep hb3⟩
    clear C6 hb3 K2 s0 s2
    obtain ⟨C, kc, hcv, hbm⟩ := bytes_of_text w3 x7
    obtain ⟨X, hX⟩ : ∃ X, X = w3.drew.alloc (.cells C 5 (C.size, C.size + 1)) := ⟨_, rfl⟩
    have HX : Hid (Below w3.heap.size w3 X) := by show Below _ _ _; rw [hX]; exact ((Below.refl _ _).drew).alloc (Nat.le_refl _) _
    rw [← hX] at hcv hbm
    have HM : Hid (BMine X w3.heap.size x7.data.toList) := hbm
    clear hbm hX
    obtain ⟨r0, r1, rf, _⟩ := K3.out.2.keep HX.out
    have rf0 := rf 0
    have rf1 := rf 1
    clear rf
    have hft := f_field_text
    go_wp2_with fail
    have T2 := two_put (v0 := .int .i64 0) (v1 := .slice (some ⟨w3.heap.size, 0, none⟩) x7.size kc) (K3.out.2.keep HX.out)
    have bx0 := K3.out.1.trans (HX.out.mono K3.out.1.size)
    have hw3 : w.heap.size + 1 < w3.heap.size := K3.out.2.lt
    refine bodyPost_ret (v := .agg #[.int .i64 0, .slice (some ⟨w3.heap.size, 0, none⟩) x7.size kc]) (by simp [results, Tryz.results14, go_sem, T2.c0, T2.c1]) rfl ⟨⟨_, _, _, (by rw [HC0.out]), .inr ⟨w3.heap.size, kc, ?_, ?_, ?_⟩⟩, (bx0.setCell (by simp) _).setCell (by simp) _⟩
    · rw [HB0.out, ← HX7.out]; congr 1
    · exact K3.out.1.size
    · rw [HB0.out, ← HX7.out]
      exact HM.out.put _ _ (by omega)
  · have HB0 : Hid (reqB m h p l = []) := by show _ = _; rw [reqB, if_neg c0]
    have HF : Hid (∀ e w', e = .returned (.agg #[.int .i64 (reqC m h p l), .slice none 0 0]) → BGot (reqC m h p l) (reqB m h p l) w.heap.size e w') := fun e w' he => by subst he; rw [HB0.out]; exact BGot.nil _ _ _
    obtain ⟨t0, t1, tf, _⟩ := K1.out.2.2
    have tf0 := tf 0
    have tf1 := tf 1
    have HB1 : Hid (Below w.heap.size w w1) := K1.out.1
    have T2 : Hid (Two ((w1.setCell ⟨w.heap.size + 1, 0, none⟩ (.int .i64 (reqC m h p l))).setCell ⟨w.heap.size + 1, 1, none⟩ (.slice none 0 0)) (w.heap.size + 1) (.int .i64 (reqC m h p l)) (.slice none 0 0)) := two_put K1.out.2.2
    clear K1 HI HB0 tf
    obtain ⟨c, hcc⟩ : ∃ c, reqC m h p l = c := ⟨_, rfl⟩
    obtain ⟨bb, hbb⟩ : ∃ bb, reqB m h p l = bb := ⟨_, rfl⟩
    have HCC : Hid (reqC m h p l = c ∧ reqB m h p l = bb) := ⟨hcc, hbb⟩
    rw [hcc] at HF T2 c0 ⊢
    rw [hbb] at HF
    clear hcc hbb
    generalize l.length = n at *
    go_wp2_with fail
    exact bodyPost_ret (v := .agg #[.int .i64 c, .slice none 0 0]) (by simp [results, Tryz.results14, go_sem, T2.out.c0, T2.out.c1]) rfl ⟨by rw [HCC.out.1, HCC.out.2]; exact HF.out _ _ rfl, (HB1.out.setCell (by simp) _).setCell (by simp) _⟩
end Go.Proofs.YtojcjpdgjohldaaGreatDoor
/-
  What the model's l5Key answers.
-/
namespace Go.Proofs.YtojcjpdgjohldaaGreatDoor
open Go.ChangeShapes Go.WideShapes Go.ChangeAt Go.RowKit
/-- How many bytes lie ahead of the first '?'. -/
def qAt : List UInt8 → Nat
  | [] => 0
  | x :: l => if x = 63 then 0 else qAt l + 1
theorem qAt_le : ∀ l : List UInt8, qAt l ≤ l.length
  | [] => Nat.le_refl _
  | x :: l => by
    rw [qAt]
    split
    · exact Nat.zero_le _
    · have := qAt_le l; simp; omega
theorem qAt_stop : ∀ (l : List UInt8) (k : Nat) (h : k < l.length), k ≤ qAt l → l[k] = 63 → qAt l = k
  | [], k, h, _, _ => by simp at h
  | x :: l, 0, _, _, h63 => by
    have : x = 63 := h63
    rw [qAt, if_pos this]
  | x :: l, k + 1, h, hk, h63 => by
    rw [qAt] at hk ⊢
    split at hk
    · omega
    · rename_i hx
      rw [if_neg hx, qAt_stop l k (by simpa using h) (by omega) h63]
theorem qAt_on : ∀ (l : List UInt8) (k : Nat) (h : k < l.length), k ≤ qAt l → ¬ l[k] = 63 → k + 1 ≤ qAt l
  | [], k, h, _, _ => by simp at h
  | x :: l, 0, _, _, h63 => by
    have : ¬ x = 63 := h63
    rw [qAt, if_neg this]; omega
  | x :: l, k + 1, h, hk, h63 => by
    rw [qAt] at hk ⊢
    split at hk
    · omega
    · rename_i hx
      rw [if_neg hx]
      have := qAt_on l k (by simpa using h) (by omega) h63
      omega
/-- What stands behind the path in a key. -/
def keyQ (ps : List (List UInt8)) : List UInt8 := if ps = [] then [] else 63 :: Lib.join ps [38]
theorem keyQ_nil : keyQ [] = [] := rfl
theorem join_snoc (ps : List (List UInt8)) (x sep : List UInt8) (h : ps ≠ []) : Lib.join (ps ++ [x]) sep = Lib.join ps sep ++ sep ++ x := by
  cases ps with
  | nil => exact absurd rfl h
  | cons y ps => rw [List.cons_append, Lib.join_cons, Lib.join_cons]; simp [Lib.joinTail]
theorem keyQ_first (x : List UInt8) : keyQ [x] = 63 :: x := by simp [keyQ, Lib.join_one]
theorem keyQ_more (ps : List (List UInt8)) (x : List UInt8) (h : ps ≠ []) : keyQ (ps ++ [x]) = keyQ ps ++ 38 :: x := by
  rw [keyQ, if_neg (by simp), keyQ, if_neg h, join_snoc _ _ _ h]; simp
def keyParts (p : List UInt8) : List (List UInt8) := sortS (fullP (cutG 38 [] (p.drop (qAt p + 1))))
def keyT (h p : ByteArray) : List UInt8 := (lowS h).data.toList ++ p.data.toList.take (qAt p.data.toList) ++ keyQ (keyParts p.data.toList)
theorem keyParts_none (p : List UInt8) (h : qAt p = p.length) : keyParts p = [] := by
  rw [keyParts, h, List.drop_of_length_le (by omega)]; rfl
theorem fullP_take_on (l : List (List UInt8)) (k : Nat) (x : List UInt8) (h : l[k]? = some x) (hx : x ≠ []) : fullP (l.take (k + 1)) = fullP (l.take k) ++ [x] := by
  rw [List.take_add_one, h]; exact fullP_snoc _ _ hx
theorem fullP_take_nil (l : List (List UInt8)) (k : Nat) (h : l[k]? = some []) : fullP (l.take (k + 1)) = fullP (l.take k) := by
  rw [List.take_add_one, h]; exact fullP_snoc_nil _
theorem fullP_len (l : List (List UInt8)) : (fullP l).length ≤ l.length := List.length_filter_le _ _
theorem cutG_len (c : UInt8) : ∀ (l cur : List UInt8), (cutG c cur l).length ≤ l.length + 1
  | [], cur => by simp [cutG]
  | x :: l, cur => by
    rw [cutG]
    split
    · have := cutG_len c l []; simp; omega
    · have := cutG_len c l (cur ++ [x]); simp; omega
/-- All bytes of the pieces. -/
def sumL (ps : List (List UInt8)) : Nat := (ps.map List.length).sum
theorem cutG_sum (c : UInt8) : ∀ (l cur : List UInt8), sumL (cutG c cur l) ≤ l.length + cur.length
  | [], cur => by simp [cutG, sumL]
  | x :: l, cur => by
    rw [cutG]
    split
    · have := cutG_sum c l []; simp [sumL] at this ⊢; omega
    · have := cutG_sum c l (cur ++ [x]); simp [sumL] at this ⊢; omega
theorem fullP_sum : ∀ ps : List (List UInt8), sumL (fullP ps) ≤ sumL ps
  | [] => Nat.le_refl _
  | [] :: ps => by have := fullP_sum ps; rw [fullP_cons_nil]; simp [sumL] at this ⊢; omega
  | (x :: p) :: ps => by have := fullP_sum ps; rw [fullP_cons _ _ (by simp)]; simp [sumL] at this ⊢; omega
theorem sortS_sum (ps : List (List UInt8)) : sumL (sortS ps) = sumL ps := ((sortS_perm ps).map List.length).sum_nat
theorem keyParts_len (p : List UInt8) : (keyParts p).length ≤ p.length + 1 := by
  rw [keyParts, sortS_len]
  have h1 := fullP_len (cutG 38 [] (p.drop (qAt p + 1)))
  have h2 := cutG_len 38 (p.drop (qAt p + 1)) []
  rw [List.length_drop] at h2
  omega
theorem keyParts_sum (p : List UInt8) : sumL (keyParts p) ≤ p.length := by
  rw [keyParts, sortS_sum]
  have h1 := fullP_sum (cutG 38 [] (p.drop (qAt p + 1)))
  have h2 := cutG_sum 38 (p.drop (qAt p + 1)) []
  rw [List.length_drop] at h2
  simp only [List.length_nil] at h2
  omega
theorem keyQ_len (ps : List (List UInt8)) : (keyQ ps).length ≤ sumL ps + ps.length := by
  rw [keyQ]
  split
  · simp
  · rename_i h
    cases ps with
    | nil => exact absurd rfl h
    | cons x r =>
      rw [Lib.join_cons]
      have : ∀ r : List (List UInt8), (Lib.joinTail [38] r).length = sumL r + r.length := fun r => by
        induction r with
        | nil => rfl
        | cons y r ih => simp [Lib.joinTail, sumL] at ih ⊢; omega
      simp [this, sumL]; omega
theorem sumL_take (ps : List (List UInt8)) (k : Nat) : sumL (ps.take k) ≤ sumL ps := by
  have e := List.take_append_drop k ps
  have : sumL (ps.take k ++ ps.drop k) = sumL (ps.take k) + sumL (ps.drop k) := by simp only [sumL, List.map_append, List.sum_append_nat]
  rw [e] at this
  omega
theorem keyQ_take_len (ps : List (List UInt8)) (k : Nat) : (keyQ (ps.take k)).length ≤ sumL ps + ps.length := by
  have h1 := keyQ_len (ps.take k)
  have h2 := sumL_take ps k
  have h3 : (ps.take k).length ≤ ps.length := List.length_take_le' _ _
  omega
theorem sumL_get (ps : List (List UInt8)) (k : Nat) (x : List UInt8) (h : ps[k]? = some x) : x.length ≤ sumL ps := by
  have e := List.take_append_drop k ps
  have hk := (List.getElem?_eq_some_iff.1 h).1
  rw [List.drop_eq_getElem_cons hk, (List.getElem?_eq_some_iff.1 h).2] at e
  rw [← e]
  simp [sumL]; omega
theorem hmk_add (a b : List UInt8) : (hmk a ++ hmk b : ByteArray) = hmk (a ++ b) := by
  apply ByteArray.ext
  apply Array.ext'
  rw [happ_list]; simp [hmk]
theorem hmk_of (s : ByteArray) : hmk s.data.toList = s := by cases s; simp [hmk]
/-- append of one text, where another row must stay. -/
theorem wpList_append_str_at {ops : Array Oper} {rest : List Oper} {o : Oper} {a : Act} {Q : Exit → Act → World → Prop} (w : World) (hgd : o.guard = none) (s x : Operand)
    (ho : o.op = .call { callee := .builtin .append, args := #[s, x], argTypes := #[46, 46] }) (base : Nat) (v : Value) (l : List ByteArray) (z : ByteArray)
    (hs : a.eval s = v) (hx : a.eval x = .slice (some ⟨w.heap.size, 0, none⟩) 1 1) (hown : OwnS w base v l) (hl : l.length ≤ 1000000) (hbase : base ≤ w.heap.size)
    (b6 : Nat) (v6 : Value) (l6 : List ByteArray) (h6 : OwnS w b6 v6 l6) (g6 : Nat) (hg6 : v6.ownBlock = some g6) (hne : v.ownBlock ≠ some g6)
    (h : ∀ v' w', OwnS w' base v' (l ++ [z]) → OwnS w' b6 v6 l6 → v'.ownBlock ≠ some g6 → Below base w w' → wpList Tryz.prog ops Q rest (a.put o.dst v') w') :
    wpList Tryz.prog ops Q (o :: rest) a (w.alloc (.cells #[.string z] 9)) := by
  obtain ⟨i0, hi, hz0, hz1, hz2⟩ := info_parts infoStr
  refine wpList_append_own_at _ hgd s x 46 ho base 9 i0 (.string ⟨#[]⟩) 1 16 Tryz.underlying46 hi hz0 hz1 hz2 rfl (by decide) v l.length (textsW l) hs (World.ownsRow.alloc hown _) ⟨w.heap.size, 0, none⟩ 1 1 [.string z] hx rfl ?_ ?_ ?_ ?_ ?_ ?_
  · intro j u hj
    match j, hj with
    | 0, hj => simp at hj; subst hj; simp [Addr.add]
  · intro u hu; simp at hu; subst hu; rfl
  · unfold maxLen; omega
  · omega
  · simp; omega
  · intro v' w' h1 h2 h3 h4
    have e : textsW (l ++ [z]) = textsW l ++ [Value.string z] := by simp [textsW]
    have hlt := (World.ownsRow.lt h6 g6 hg6).2
    refine h v' w' (by unfold OwnS; rw [e, List.length_append]; exact h1) ?_ ?_ ?_
    · exact World.ownsRow.kept (World.ownsRow.alloc h6 _) h2 (.inr (by rw [hg6]; exact fun e => hne e.symm))
    · rcases h4 with h4 | h4
      · rw [h4]; exact hne
      · rw [h4]
        intro e
        simp at e
        omega
    · exact ((Below.refl base w).alloc hbase _).grown h2 (by simp; omega) (fun q hq => own_geS hown q hq)
theorem hmk_eqE {x : List UInt8} (h : x ≠ []) : (hmk x).toList.isEmpty = false := by
  rw [Lib.toList_data]
  cases x with
  | nil => exact absurd rfl h
  | cons y x => rfl
theorem hmk_nilE {x : List UInt8} (h : x = []) : (hmk x).toList.isEmpty = true := by
  subst h; rw [Lib.toList_data]; rfl
theorem kext (p : ByteArray) (k : Nat) : (p.extract k p.size).data.toList = p.data.toList.drop k := by
  rw [hext_mk]
  show (List.take (p.size - k) (List.drop k p.data.toList)).toArray.toList = _
  rw [List.toList_toArray]
  exact List.take_of_length_le (by rw [List.length_drop, hsize_list]; omega)
set_option maxRecDepth 100000 in
set_option maxHeartbeats 8000000 in
theorem l5Key_any (w : World) (B : Nat) (m h p : ByteArray) (hv : Value) (F : Four w B (.string m) (.string h) (.string p) hv) (hh : h.size ≤ 60) (hp : p.size ≤ 100) :
    Calls Tryz.prog 105 #[.pointer (some ⟨B, 0, none⟩)] w fun e w' => e = .returned (.string (hmk (keyT h p))) ∧ Below w.heap.size w w' := by
  have HK : Hid (∀ X, Below w.heap.size w X → X.cell? ⟨B, 1, none⟩ = some (.string h) ∧ X.cell? ⟨B, 2, none⟩ = some (.string p)) := fun X hb => ⟨(F.keep hb).c1, (F.keep hb).c2⟩
  have hqs : qAt p.data.toList ≤ p.size := by have := qAt_le p.data.toList; rw [hsize_list] at this; exact this
  have HQ1 : Hid (∀ (k : Nat) (hk : k < p.size), k ≤ qAt p.data.toList → p[k] = 63 → qAt p.data.toList = k) := fun k hk => qAt_stop p.data.toList k (by rw [hsize_list]; exact hk)
  have HQ2 : Hid (∀ (k : Nat) (hk : k < p.size), k ≤ qAt p.data.toList → ¬ p[k] = 63 → k + 1 ≤ qAt p.data.toList) := fun k hk => qAt_on p.data.toList k (by rw [hsize_list]; exact hk)
  obtain ⟨q, hq⟩ : ∃ q, qAt p.data.toList = q := ⟨_, rfl⟩
  have HQE : Hid (qAt p.data.toList = q) := hq
  rw [hq] at hqs HQ1 HQ2
  clear F hq
  go_enter Tryz.func105, Tryz.ntmps105
  go_wp2_with fail
  go_loopw [3] (fun i wr => ∃ k : Nat, k ≤ q ∧ i = .int .i64 (k : Int) ∧ Below w.heap.size w wr) (fun i _ => q - (intOf i).toNat)
  case atStart => exact ⟨0, Nat.zero_le _, rfl, Below.refl _ _⟩
  case round =>
    obtain ⟨k, hk, rfl, hb⟩ := hrel
    obtain ⟨c1, c2⟩ := HK.out wr hb
    have HB : Hid (Below w.heap.size w wr) := hb
    clear hb
    have hne : k ≠ q ∨ k = q := by omega
    rcases hne with hne | hkq
    · have hks : k < p.size := by omega
      have g1 : decide ((k : Int) < (p.size : Int)) = true := by simp; omega
      have n63 : ¬ p[k] = 63 := fun e => hne (HQ1.out k hks hk e).symm
      have hk1 := HQ2.out k hks hk n63
      have d63 : ((p[k].toNat : Int) == 63) = false := by
        rw [beq_eq_false_iff_ne]; intro e
        exact n63 (UInt8.toNat_inj.1 (by simpa using (by omega : p[k].toNat = 63)))
      clear HQ1 HQ2 n63
      go_wp2_with fail
      go_roundw
      case rel => exact ⟨k + 1, by omega, by go_num, HB.out⟩
      case measure => simp [intOf]; omega
    · subst hkq
      by_cases hks : k < p.size
      · have g1 : decide ((k : Int) < (p.size : Int)) = true := by simp; omega
        have e63 : p[k] = 63 := by
          by_cases e : p[k] = 63
          · exact e
          · have := HQ2.out k hks (Nat.le_refl _) e; omega
        have d63 : ((p[k].toNat : Int) == 63) = true := by rw [e63]; rfl
        clear HQ1 HQ2 e63
        have HLW : Hid (∀ X, Calls Tryz.prog 138 #[.string h] X fun e w' => e = .returned (.string (lowS h)) ∧ Below X.heap.size X w') := fun X => l1Lower_any h X (by omega)
        obtain ⟨o0, ho0⟩ : ∃ o : ByteArray, o = lowS h ++ p.extract 0 k := ⟨_, rfl⟩
        have add0 : ∀ X, (Op.stringOp .add (lowS h) (p.extract 0 k)).run Tryz.prog X = .ok (.string o0) X := fun X => by rw [ho0]; exact run_string_add_sum X _ _ (by rw [lowS_size, ByteArray.size_extract]; omega)
        have HO0 : Hid (o0.data.toList = (lowS h).data.toList ++ p.data.toList.take k ∧ o0.size ≤ 160) := by
          refine ⟨by rw [ho0, happ_list]; simp, ?_⟩
          rw [ho0, ByteArray.size_append, lowS_size, ByteArray.size_extract]; omega
        have B0 : Hid (Below wr.heap.size wr wr.drew) := (Below.refl _ _).drew
        have HKS : Hid (∀ X, Below wr.heap.size wr X → X.cell? ⟨B, 1, none⟩ = some (.string h) ∧ X.cell? ⟨B, 2, none⟩ = some (.string p)) := fun X hb => HK.out X (HB.out.trans (hb.mono HB.out.size))
        clear ho0
        obtain ⟨lw, hlw⟩ : ∃ lw, lw = lowS h := ⟨_, rfl⟩
        have HLWE : Hid (lw = lowS h) := hlw
        rw [← hlw] at HLW add0 HO0
        clear hlw
        go_wp2_with fail
        clear c1 c2
        go_region_held3 (fun X => X.cell? ⟨B, 1, none⟩ = some (.string h) ∧ X.cell? ⟨B, 2, none⟩ = some (.string p))
          (first | exact HKS.out _ BA.out | exact HKS.out _ B0.out)
          (first | (go_at_call 138; refine (HLW.out _).mono ?_; rintro e wa ⟨rfl, hba⟩; have BA : Hid (Below wr.heap.size wr wa) := B0.out.trans (hba.mono B0.out.size); clear hba))
        obtain ⟨c1, c2⟩ := HKS.out _ BA.out
        have HBA : Hid (Below w.heap.size w wa) := HB.out.trans (BA.out.mono HB.out.size)
        have bAl : Below wa.heap.size wa (wa.alloc (.cells #[] 9)) := (Below.refl _ _).alloc (Nat.le_refl _) _
        have c2' : (wa.alloc (.cells #[] 9)).cell? ⟨B, 2, none⟩ = some (.string p) := (HKS.out _ (BA.out.trans (bAl.mono BA.out.size))).2
        have HBL : Hid (Below wa.heap.size wa (wa.alloc (.cells #[] 9))) := bAl
        have ge : ((k : Int) == (p.size : Int)) = false := by simp; omega
        have gk0 : (0 : Int) ≤ (k : Int) + 1 := by omega
        have gk1 : (k : Int) + 1 ≤ p.size := by omega
        obtain ⟨C, hC⟩ : ∃ C, C = cutG 38 [] (p.data.toList.drop (k + 1)) := ⟨_, rfl⟩
        have hCl : C.length ≤ 101 := by
          have := cutG_len 38 (p.data.toList.drop (k + 1)) []
          rw [List.length_drop, hsize_list] at this
          rw [hC]; omega
        have HCN : Hid (C ≠ []) := by rw [hC]; exact cutG_ne _ _ _
        have HCC : Hid (∀ X, Calls Tryz.prog 132 #[.string (p.extract (k + 1) p.size), .int .u8 38] X fun e w' => CutRes C X.heap.size e w' ∧ Below X.heap.size X w') := fun X => by
          have := l1Cut_any (p.extract (k + 1) p.size) 38 X (by rw [ByteArray.size_extract]; omega)
          rw [kext] at this
          rw [hC]
          exact this
        have HKP : Hid (sortS (fullP C) = keyParts p.data.toList) := by show _ = _; rw [hC, keyParts, HQE.out]
        clear hC bAl HKS B0 BA HLW add0 d63 g1
        go_wp2_with fail
        refine (HCC.out _).mono ?_
        rintro e w2 ⟨⟨v6, rfl, ho6⟩, hb2⟩
        obtain ⟨g6, c6, rfl⟩ := ho6.isS (fun e => HCN.out (by simpa using e))
        rw [List.length_map] at ho6 ⊢
        have HP0 : Hid (OwnS w2 wa.heap.size (.slice (some ⟨wa.heap.size, 0, none⟩) 0 0) []) := (ownS_made0 wa wa.heap.size (Nat.le_refl _)).below hb2
        have HA0 : Hid (OwnS w2 (wa.heap.size + 1) (.slice (some ⟨g6, 0, none⟩) C.length c6) (C.map hmk)) := ho6.lower (by simp)
        have HB2 : Hid (Below w.heap.size w w2) := HBA.out.trans ((HBL.out.trans (hb2.mono HBL.out.size)).mono HBA.out.size)
        have hg6 : wa.heap.size + 1 ≤ g6 := (World.ownsRow.lt ho6 g6 rfl).1 |> fun h => by simpa using h
        have hsz : w.heap.size ≤ wa.heap.size := HBA.out.size
        clear ho6 hb2 HBL c1 c2 c2' HCC HCN HBA
        go_wp2_with fail
        go_loopw [5, 7] (fun v i wr => ∃ (k : Nat), k ≤ C.length ∧ i = .int .i64 (k : Int) ∧ OwnS wr wa.heap.size v ((fullP (C.take k)).map hmk) ∧ v.ownBlock ≠ some g6 ∧ OwnS wr (wa.heap.size + 1) (.slice (some ⟨g6, 0, none⟩) C.length c6) (C.map hmk) ∧ Below w.heap.size w wr) (fun _ i _ => C.length - (intOf i).toNat)
        case atStart => exact ⟨0, Nat.zero_le _, rfl, HP0.out, by simp [Value.ownBlock]; omega, HA0.out, HB2.out⟩
        case round =>
          obtain ⟨j, hj, rfl, hp, hpn, ha, hb⟩ := hrel
          have HP : Hid (OwnS wr wa.heap.size u5 ((fullP (C.take j)).map hmk)) := hp
          have HPN : Hid (u5.ownBlock ≠ some g6) := hpn
          have HA : Hid (OwnS wr (wa.heap.size + 1) (.slice (some ⟨g6, 0, none⟩) C.length c6) (C.map hmk)) := ha
          have HBR : Hid (Below w.heap.size w wr) := hb
          clear hp hpn ha hb
          by_cases hlt : j < C.length
          · obtain ⟨x, hx⟩ : ∃ x, C[j]? = some x := ⟨C[j], List.getElem?_eq_getElem hlt⟩
            have hcx : wr.cell? ⟨g6, j, none⟩ = some (.string (hmk x)) := HA.out.cellAt j (hmk x) (by rw [List.getElem?_map, hx]; rfl)
            have gj : (j : Int) < C.length := by omega
            by_cases hx0 : x = []
            · have HF : Hid (fullP (C.take (j + 1)) = fullP (C.take j)) := fullP_take_nil C j (by rw [hx, hx0])
              have dE := hmk_nilE hx0
              clear hx hx0
              go_wp2_with fail
              go_roundw
              case rel => exact ⟨j + 1, by omega, by go_num, by rw [HF.out]; exact HP.out, HPN.out, HA.out, HBR.out⟩
              case measure => simp [intOf]; omega
            · have HF : Hid (fullP (C.take (j + 1)) = fullP (C.take j) ++ [x]) := fullP_take_on C j x hx hx0
              have dE := hmk_eqE hx0
              have hfl : ((fullP (C.take j)).map hmk).length ≤ 1000 := by
                rw [List.length_map]
                have h1 := fullP_len (C.take j)
                rw [List.length_take] at h1
                omega
              have hzz : wa.heap.size ≤ wr.heap.size := by have := (World.ownsRow.lt HA.out g6 rfl).2; omega
              clear hx hx0
              go_wp2_with (at_builtin; refine wpList_append_str_at _ rfl (.tmp 67) (.tmp 72) rfl wa.heap.size _ _ (hmk x) rfl rfl HP.out (by omega) hzz _ _ _ HA.out g6 rfl HPN.out ?_; intro v4 w4 HO4 HA4 HN4 hb4)
              go_roundw
              case rel => exact ⟨j + 1, by omega, by go_num, by rw [HF.out, List.map_append]; exact HO4, HN4, HA4, HBR.out.trans (hb4.mono hsz)⟩
              case measure => simp [intOf]; omega
          · have ej : j = C.length := by omega
            subst ej
            have HS : Hid (∀ v, OwnS wr wa.heap.size v ((fullP (C.take C.length)).map hmk) → Calls Tryz.prog 151 #[v] wr fun e w' => CutRes (keyParts p.data.toList) wr.heap.size e w' ∧ Below wr.heap.size wr w') := fun v hv => by
              rw [List.take_length] at hv
              have := l5Sort_any (fullP C) v _ wr (by have := fullP_len C; omega) hv
              rw [HKP.out] at this
              exact this
            clear HA HPN
            go_wp2_with fail
            refine (HS.out _ HP.out).mono ?_
            rintro e w5 ⟨⟨v5, rfl, ho5⟩, hb5⟩
            obtain ⟨a5, c5, rfl, hc5⟩ := ho5.shape
            obtain ⟨S, hS⟩ : ∃ S, S = keyParts p.data.toList := ⟨_, rfl⟩
            rw [← hS] at hc5 ⊢
            rw [List.length_map]
            have hSl : S.length ≤ 101 := by rw [hS]; have := keyParts_len p.data.toList; rw [hsize_list] at this; omega
            have hSs : sumL S ≤ 100 := by rw [hS]; have := keyParts_sum p.data.toList; rw [hsize_list] at this; omega
            have HS5 : Hid (S = keyParts p.data.toList) := hS
            have HC5 : Hid (∀ (i : Nat) x, S[i]? = some x → ∃ g, a5 = some ⟨g, 0, none⟩ ∧ w5.cell? ⟨g, i, none⟩ = some (.string (hmk x))) := fun i x hx => hc5 i (hmk x) (by rw [List.getElem?_map, hx]; rfl)
            have HB5 : Hid (Below w.heap.size w w5) := HBR.out.trans (hb5.mono HBR.out.size)
            clear ho5 hc5 hS hb5 HS HP HBR HP0 HA0 HB2 HKP
            go_wp2_with fail
            go_loopw [4, 8] (fun v i wr => ∃ (k : Nat) (o : ByteArray), k ≤ S.length ∧ i = .int .i64 (k : Int) ∧ v = .string o ∧ o.data.toList = o0.data.toList ++ keyQ (S.take k) ∧ Below w5.heap.size w5 wr) (fun _ i _ => S.length - (intOf i).toNat)
            case atStart => exact ⟨0, o0, Nat.zero_le _, rfl, rfl, by simp [keyQ_nil], Below.refl _ _⟩
            case round =>
              obtain ⟨j, o, hj, rfl, rfl, ho, hb⟩ := hrel
              have hos : o.size ≤ 600 := by
                have h1 := congrArg List.length ho
                have h2 := keyQ_take_len S j
                have h3 := HO0.out.2
                rw [List.length_append, hsize_list, hsize_list] at h1
                omega
              have HO : Hid (o.data.toList = o0.data.toList ++ keyQ (S.take j)) := ho
              have HBR : Hid (Below w5.heap.size w5 wr) := hb
              clear ho hb
              by_cases hlt : j < S.length
              · obtain ⟨x, hx⟩ : ∃ x, S[j]? = some x := ⟨S[j], List.getElem?_eq_getElem hlt⟩
                obtain ⟨g, rfl, hcx0⟩ := HC5.out j x hx
                have hcx : wr.cell? ⟨g, j, none⟩ = some (.string (hmk x)) := by rw [HBR.out.cell (p := ⟨g, j, none⟩) (block_lt_of_cell hcx0)]; exact hcx0
                have hxs : (hmk x).size ≤ 100 := by have := sumL_get S j x hx; rw [hmk_size]; omega
                have gj : (j : Int) < S.length := by omega
                have HT : Hid (S.take (j + 1) = S.take j ++ [x]) := by show _ = _; rw [List.take_add_one, hx]; rfl
                have HXL : Hid ((hmk x).data.toList = x) := by show _ = _; simp [hmk]
                clear hcx0 HC5 hx
                by_cases hj0 : j = 0
                · subst hj0
                  have HE : Hid ((o ++ ⟨#[63]⟩ ++ hmk x : ByteArray).data.toList = o0.data.toList ++ keyQ (S.take (0 + 1))) := by
                    show _ = _
                    rw [happ_list, happ_list, HO.out, HXL.out, HT.out]
                    simp [keyQ_first, keyQ_nil]
                  go_wp2_with fail
                  go_roundw
                  case rel => exact ⟨0 + 1, _, by omega, by go_num, rfl, HE.out, HBR.out⟩
                  case measure => simp [intOf]; omega
                · have dj : ((j : Int) == 0) = false := by simp; omega
                  have HE : Hid ((o ++ ⟨#[38]⟩ ++ hmk x : ByteArray).data.toList = o0.data.toList ++ keyQ (S.take (j + 1))) := by
                    show _ = _
                    rw [happ_list, happ_list, HO.out, HXL.out, HT.out, keyQ_more _ _ (fun e => by have := congrArg List.length e; rw [List.length_take, List.length_nil] at this; omega)]
                    simp
                  go_wp2_with fail
                  go_roundw
                  case rel => exact ⟨j + 1, _, by omega, by go_num, rfl, HE.out, HBR.out⟩
                  case measure => simp [intOf]; omega
              · have ej : j = S.length := by omega
                subst ej
                have HR : Hid (o = hmk (keyT h p)) := by
                  show _ = _
                  refine hof_list ?_
                  rw [HO.out, HO0.out.1, List.take_length, HS5.out, keyT, HQE.out, HLWE.out]
                clear HC5
                go_wp2_with fail
                go_ret
                exact ⟨congrArg (fun s => Ending.returned (.string s)) HR.out, HB5.out.trans (HBR.out.mono HB5.out.size)⟩
      · have g1 : decide ((k : Int) < (p.size : Int)) = false := by simp; omega
        clear HQ1 HQ2
        have HLW : Hid (∀ X, Calls Tryz.prog 138 #[.string h] X fun e w' => e = .returned (.string (lowS h)) ∧ Below X.heap.size X w') := fun X => l1Lower_any h X (by omega)
        obtain ⟨o0, ho0⟩ : ∃ o : ByteArray, o = lowS h ++ p.extract 0 k := ⟨_, rfl⟩
        have add0 : ∀ X, (Op.stringOp .add (lowS h) (p.extract 0 k)).run Tryz.prog X = .ok (.string o0) X := fun X => by rw [ho0]; exact run_string_add_sum X _ _ (by rw [lowS_size, ByteArray.size_extract]; omega)
        have HO0 : Hid (o0.data.toList = (lowS h).data.toList ++ p.data.toList.take k ∧ o0.size ≤ 160) := by
          refine ⟨by rw [ho0, happ_list]; simp, ?_⟩
          rw [ho0, ByteArray.size_append, lowS_size, ByteArray.size_extract]; omega
        have B0 : Hid (Below wr.heap.size wr wr.drew) := (Below.refl _ _).drew
        have HKS : Hid (∀ X, Below wr.heap.size wr X → X.cell? ⟨B, 1, none⟩ = some (.string h) ∧ X.cell? ⟨B, 2, none⟩ = some (.string p)) := fun X hb => HK.out X (HB.out.trans (hb.mono HB.out.size))
        clear ho0
        obtain ⟨lw, hlw⟩ : ∃ lw, lw = lowS h := ⟨_, rfl⟩
        have HLWE : Hid (lw = lowS h) := hlw
        rw [← hlw] at HLW add0 HO0
        clear hlw
        go_wp2_with fail
        clear c1 c2
        go_region_held3 (fun X => X.cell? ⟨B, 1, none⟩ = some (.string h) ∧ X.cell? ⟨B, 2, none⟩ = some (.string p))
          (first | exact HKS.out _ BA.out | exact HKS.out _ B0.out)
          (first | (go_at_call 138; refine (HLW.out _).mono ?_; rintro e wa ⟨rfl, hba⟩; have BA : Hid (Below wr.heap.size wr wa) := B0.out.trans (hba.mono B0.out.size); clear hba))
        obtain ⟨c1, c2⟩ := HKS.out _ BA.out
        have HBA : Hid (Below w.heap.size w wa) := HB.out.trans (BA.out.mono HB.out.size)
        have ge : ((k : Int) == (p.size : Int)) = true := by simp; omega
        have HR : Hid (o0 = hmk (keyT h p)) := by
          show _ = _
          refine hof_list ?_
          rw [HO0.out.1, keyT, HQE.out, keyParts_none p.data.toList (by rw [HQE.out, hsize_list]; omega), keyQ_nil, List.append_nil, HLWE.out]
        clear HKS B0 BA HLW add0 g1
        go_wp2_with fail
        go_ret
        exact ⟨congrArg (fun s => Ending.returned (.string s)) HR.out, HBA.out⟩
end Go.Proofs.YtojcjpdgjohldaaGreatDoor
/-
  What the model's ReadRequest answers.
-/
namespace Go.Proofs.YtojcjpdgjohldaaGreatDoor
open Go.ChangeShapes Go.WideShapes Go.ChangeAt Go.RowKit Go.Sort
structure Five (W : World) (B : Nat) (v0 v1 v2 v3 v4 : Value) : Prop where
  c0 : W.cell? ⟨B, 0, none⟩ = some v0
  c1 : W.cell? ⟨B, 1, none⟩ = some v1
  c2 : W.cell? ⟨B, 2, none⟩ = some v2
  c3 : W.cell? ⟨B, 3, none⟩ = some v3
  c4 : W.cell? ⟨B, 4, none⟩ = some v4
  fr : ∀ o, W.frozen? ⟨B, o, none⟩ = false
  lt : B < W.heap.size
theorem Five.keep {W W' : World} {B : Nat} {v0 v1 v2 v3 v4 : Value} (h : Five W B v0 v1 v2 v3 v4) (hb : Below W.heap.size W W') : Five W' B v0 v1 v2 v3 v4 :=
  ⟨by rw [hb.cell (p := ⟨B, 0, none⟩) h.lt]; exact h.c0, by rw [hb.cell (p := ⟨B, 1, none⟩) h.lt]; exact h.c1, by rw [hb.cell (p := ⟨B, 2, none⟩) h.lt]; exact h.c2, by rw [hb.cell (p := ⟨B, 3, none⟩) h.lt]; exact h.c3, by rw [hb.cell (p := ⟨B, 4, none⟩) h.lt]; exact h.c4,
    fun o => by rw [hb.frozen (p := ⟨B, o, none⟩) h.lt]; exact h.fr o, Nat.lt_of_lt_of_le h.lt hb.size⟩
theorem Five.new (W : World) (v0 v1 v2 v3 v4 : Value) (t : TypeId) : Five (W.alloc (.cells #[v0, v1, v2, v3, v4] t)) W.heap.size v0 v1 v2 v3 v4 :=
  ⟨by rw [World.cell?_alloc_mark]; rfl, by rw [World.cell?_alloc_mark]; rfl, by rw [World.cell?_alloc_mark]; rfl, by rw [World.cell?_alloc_mark]; rfl, by rw [World.cell?_alloc_mark]; rfl, fun o => by have e := heap_alloc_new W (.cells #[v0, v1, v2, v3, v4] t); unfold World.frozen?; rw [e]; simp, by simp⟩
def put5 (w : World) (B : Nat) (v0 v1 v2 v3 v4 : Value) : World := ((((w.setCell ⟨B, 0, none⟩ v0).setCell ⟨B, 1, none⟩ v1).setCell ⟨B, 2, none⟩ v2).setCell ⟨B, 3, none⟩ v3).setCell ⟨B, 4, none⟩ v4
theorem off_ne {B i j : Nat} (h : i ≠ j) : (⟨B, i, none⟩ : Addr) ≠ ⟨B, j, none⟩ := fun e => h (congrArg Addr.off e)
theorem five_put {w : World} {B : Nat} {u0 u1 u2 u3 u4 v0 v1 v2 v3 v4 : Value} (h : Five w B u0 u1 u2 u3 u4) : Five (put5 w B v0 v1 v2 v3 v4) B v0 v1 v2 v3 v4 := by
  have o : ∀ (X : World) (i j : Nat) (v : Value), i ≠ j → (X.setCell ⟨B, i, none⟩ v).cell? ⟨B, j, none⟩ = X.cell? ⟨B, j, none⟩ := fun X i j v hij => World.cell?_setCell_other _ _ _ _ (off_ne hij)
  unfold put5
  refine ⟨?_, ?_, ?_, ?_, ?_, fun o => by simp only [World.frozen?_setCell]; exact h.fr o, by simpa using h.lt⟩
  · rw [o _ _ _ _ (by omega), o _ _ _ _ (by omega), o _ _ _ _ (by omega), o _ _ _ _ (by omega)]; exact World.cell?_setCell_same _ _ _ h.c0
  · rw [o _ _ _ _ (by omega), o _ _ _ _ (by omega), o _ _ _ _ (by omega)]; exact World.cell?_setCell_same _ _ _ (by rw [o _ _ _ _ (by omega)]; exact h.c1)
  · rw [o _ _ _ _ (by omega), o _ _ _ _ (by omega)]; exact World.cell?_setCell_same _ _ _ (by rw [o _ _ _ _ (by omega), o _ _ _ _ (by omega)]; exact h.c2)
  · rw [o _ _ _ _ (by omega)]; exact World.cell?_setCell_same _ _ _ (by rw [o _ _ _ _ (by omega), o _ _ _ _ (by omega), o _ _ _ _ (by omega)]; exact h.c3)
  · exact World.cell?_setCell_same _ _ _ (by rw [o _ _ _ _ (by omega), o _ _ _ _ (by omega), o _ _ _ _ (by omega), o _ _ _ _ (by omega)]; exact h.c4)
theorem Below.put5 {w w' : World} {base B : Nat} {v0 v1 v2 v3 v4 : Value} (h : Below base w w') (hB : base ≤ B) : Below base w (put5 w' B v0 v1 v2 v3 v4) :=
  ((((h.setCell hB _).setCell hB _).setCell hB _).setCell hB _).setCell hB _
theorem ownH_put5 {w : World} {base B : Nat} {v : Value} {l : List Hdr} {v0 v1 v2 v3 v4 : Value} (h : OwnH w base v l) (hB : B < base) : OwnH (put5 w B v0 v1 v2 v3 v4) base v l :=
  ownH_set (ownH_set (ownH_set (ownH_set (ownH_set h hB) hB) hB) hB) hB
/-- What a call hands back: a code and a request of its own. -/
def QGot (c : Int) (q : Rq) (base : Nat) (e : Ending) (w : World) : Prop := ∃ v, e = .returned (.agg #[.int .i64 c, .string q.m, .string q.h, .string q.p, v]) ∧ OwnH w base v q.l
theorem QGot.zero (c : Int) (base : Nat) (w : World) : QGot c rq0 base (.returned (.agg #[.int .i64 c, .string ⟨#[]⟩, .string ⟨#[]⟩, .string ⟨#[]⟩, .slice none 0 0])) w := ⟨_, rfl, OwnH.nil _ _⟩
def WordsRes (ws : List (List UInt8)) (base : Nat) (e : Ending) (w : World) : Prop := ∃ v, e = .returned (.tuple #[v, .bool ((ws.length : Int) == 3)]) ∧ OwnS w base v (ws.map hmk)
set_option maxRecDepth 100000 in
set_option maxHeartbeats 2000000 in
theorem l5Words_any (s : ByteArray) (w : World) (hs : s.size ≤ 10100) :
    Calls Tryz.prog 86 #[.string s] w fun e w' => WordsRes (cutG 32 [] s.data.toList) w.heap.size e w' ∧ Below w.heap.size w w' := by
  have C := l1CutW_any s 32 w hs
  have hl := cutG_len 32 s.data.toList []
  rw [hsize_list] at hl
  generalize cutG 32 [] s.data.toList = ws at *
  go_enter Tryz.func86, Tryz.ntmps86
  go_wp2_with fail
  refine C.mono ?_
  rintro e w1 ⟨⟨v, rfl, ho⟩, hb⟩
  obtain ⟨a, c, rfl, _⟩ := ho.shape
  rw [List.length_map] at ho ⊢
  have HO : Hid (OwnS w1 w.heap.size (.slice a ws.length c) (ws.map hmk)) := ho
  have HB : Hid (Below w.heap.size w w1) := hb
  clear ho hb C
  go_wp2_with fail
  go_ret2
  exact ⟨⟨_, rfl, HO.out⟩, HB.out⟩
theorem words_host {H : List Hdr} (h : hostOk H = true) : valsOf hostN H ≠ [] ∧ (dropH hostN H).length + 1 = H.length := by
  have h1 : (valsOf hostN H).length = 1 := by simpa [hostOk] using h
  have h2 := vals_drop_len hostN H
  exact ⟨fun e => by rw [e] at h1; simp at h1, by omega⟩
theorem words_host_not {H : List Hdr} (h : hostOk H = false) : (dropH hostN H).length + 1 ≠ H.length := by
  have h1 : (valsOf hostN H).length ≠ 1 := by simpa [hostOk] using h
  have h2 := vals_drop_len hostN H
  omega
theorem hostOk_none {H : List Hdr} (h : valsOf hostN H = []) : hostOk H = false := by simp [hostOk, h]
theorem wordsOk_len {ws : List (List UInt8)} (h : ¬ ws.length = 3) : wordsOk ws = false := by simp [wordsOk, h]
theorem wordsOk_at {ws : List (List UInt8)} (h : ws.length = 3) : ∃ x y z, ws = [x, y, z] ∧ (wordsOk ws = decide (z = verL)) := by
  match ws, h with
  | [x, y, z], _ => exact ⟨x, y, z, rfl, by simp [wordsOk]⟩
end Go.Proofs.YtojcjpdgjohldaaGreatDoor
/-
  What the model's ReadRequest answers.
-/
namespace Go.Proofs.YtojcjpdgjohldaaGreatDoor
open Go.ChangeShapes Go.WideShapes Go.ChangeAt Go.RowKit
theorem int_ne_beq {a b : Int} (h : a ≠ b) : (a == b) = false := by rw [beq_eq_false_iff_ne]; exact h
theorem firstO_len {l a b : List UInt8} (h : firstO l = some (a, b)) : a.length ≤ l.length ∧ b.length ≤ l.length := by
  unfold firstO at h
  split at h
  · simp only [Option.some.injEq, Prod.mk.injEq] at h
    obtain ⟨rfl, rfl⟩ := h
    exact ⟨by rw [List.length_take]; omega, by rw [List.length_take, List.length_drop]; omega⟩
  · cases h
theorem read_okH {s : ByteArray} (h : readHC s = 0) : headsC (readHL s) = 0 := by
  unfold readHC readHL at *
  split at h
  · omega
  · rename_i hs
    rw [if_neg hs]
    split at h
    · omega
    · rename_i L hL
      rw [if_pos h]; exact h
theorem own_in {w : World} {base : Nat} {a : Option Addr} {n c : Nat} {L : List Hdr} (h : OwnH w base (.slice a n c) L) : n = L.length ∧ HdsIn w a L := by
  obtain ⟨a', c', e, hx⟩ := h.at
  simp only [Value.slice.injEq] at e
  obtain ⟨rfl, rfl, _⟩ := e
  exact ⟨rfl, hx⟩
set_option maxRecDepth 100000 in
set_option maxHeartbeats 16000000 in
theorem specReadQ_any (w : World) (a : Option Addr) (cap : Nat) (d : List UInt8) (hd : d.length ≤ 1048576) (hi : BIn w a d) :
    Calls Tryz.prog 28 #[.slice a d.length cap] w fun e w' => QGot (readQ d).1 (readQ d).2 w.heap.size e w' ∧ Below w.heap.size w w' := by
  obtain ⟨W, hW⟩ : ∃ W, W = w.alloc (.cells #[.int .i64 0, .string ⟨#[]⟩, .string ⟨#[]⟩, .string ⟨#[]⟩, .slice none 0 0] 38) := ⟨_, rfl⟩
  have HW : Hid (W = w.alloc (.cells #[.int .i64 0, .string ⟨#[]⟩, .string ⟨#[]⟩, .string ⟨#[]⟩, .slice none 0 0] 38)) := hW
  have bW : Below w.heap.size w W := by rw [hW]; exact (Below.refl _ _).alloc (Nat.le_refl _) _
  have f0 : Five W w.heap.size (.int .i64 0) (.string ⟨#[]⟩) (.string ⟨#[]⟩) (.string ⟨#[]⟩) (.slice none 0 0) := by rw [hW]; exact Five.new _ _ _ _ _ _ _
  have hcv : (convert 22 9 (.slice a d.length cap)).run Tryz.prog W = .ok (.string (hmk d)) W := bytes_text cap (hi.keep bW)
  have K0 : Hid (Below w.heap.size w W ∧ Five W w.heap.size (.int .i64 0) (.string ⟨#[]⟩) (.string ⟨#[]⟩) (.string ⟨#[]⟩) (.slice none 0 0)) := ⟨bW, f0⟩
  obtain ⟨R, hR⟩ : ∃ R, R = readQ d := ⟨_, rfl⟩
  have HRR : Hid (R = readQ d) := hR
  rw [← hR]
  clear hR bW f0 hi
  rw [hW] at hcv
  clear hW
  by_cases h8 : 8000 < d.length
  · have HE : Hid (R = (2, rq0)) := by show _ = _; rw [HRR.out]; exact readQ_long h8
    have g8 : (8000 : Int) < d.length := by omega
    clear hcv K0 HRR
    generalize d.length = n at *
    go_enter Tryz.func28, Tryz.ntmps28
    go_wp2_with fail
    exact bodyPost_ret (v := .agg #[.int .i64 2, .string ⟨#[]⟩, .string ⟨#[]⟩, .string ⟨#[]⟩, .slice none 0 0]) (by simp [results, Tryz.results28, go_sem]) rfl ⟨by rw [HE.out]; exact QGot.zero _ _ _, (Below.refl _ _).alloc (Nat.le_refl _) _⟩
  · have g8 : ¬ (8000 : Int) < d.length := by omega
    have hz8 : (hmk d).size ≤ 10100 := by rw [hmk_size]; omega
    cases hf : firstO d with
    | none =>
      have HE : Hid (R = (5, rq0)) := by show _ = _; rw [HRR.out]; exact readQ_none h8 hf
      have C := l5First_any (hmk d) W hz8
      rw [hmk_list, firstV_none hf] at C
      clear HRR hf hz8
      generalize hmk d = t at *
      generalize d.length = n at *
      go_enter Tryz.func28, Tryz.ntmps28
      go_wp2_with fail
      rw [← HW.out]
      refine C.mono ?_
      rintro e w1 ⟨rfl, hb1⟩
      have K1 : Hid (Below w.heap.size w w1 ∧ Five w1 w.heap.size (.int .i64 0) (.string ⟨#[]⟩) (.string ⟨#[]⟩) (.string ⟨#[]⟩) (.slice none 0 0)) := ⟨K0.out.1.trans (hb1.mono K0.out.1.size), K0.out.2.keep hb1⟩
      clear C hb1 K0 hcv
      obtain ⟨r0, r1, r2, r3, r4, rf, _⟩ := K1.out.2
      have rf0 := rf 0
      have rf1 := rf 1
      have rf2 := rf 2
      have rf3 := rf 3
      have rf4 := rf 4
      clear rf
      go_wp2_with fail
      have T2 := five_put (v0 := .int .i64 5) (v1 := .string ⟨#[]⟩) (v2 := .string ⟨#[]⟩) (v3 := .string ⟨#[]⟩) (v4 := .slice none 0 0) K1.out.2
      unfold put5 at T2
      exact bodyPost_ret (v := .agg #[.int .i64 5, .string ⟨#[]⟩, .string ⟨#[]⟩, .string ⟨#[]⟩, .slice none 0 0]) (by simp [results, Tryz.results28, go_sem, T2.c0, T2.c1, T2.c2, T2.c3, T2.c4]) rfl ⟨by rw [HE.out]; exact QGot.zero _ _ _, Below.put5 K1.out.1 (Nat.le_refl _)⟩
    | some x =>
      obtain ⟨ln, rest⟩ := x
      have C := l5First_any (hmk d) W hz8
      rw [hmk_list, firstV_some hf] at C
      have HF : Hid (firstO d = some (ln, rest)) := hf
      have H8 : Hid (¬ 8000 < d.length) := h8
      have hll : ln.length ≤ 8000 := by have := (firstO_len hf).1; omega
      clear hf hz8
      generalize hmk d = t at *
      obtain ⟨n, hn⟩ : ∃ n, d.length = n := ⟨_, rfl⟩
      rw [hn] at hcv g8 hd ⊢
      clear hn h8
      go_enter Tryz.func28, Tryz.ntmps28
      go_wp2_with fail
      rw [← HW.out]
      refine C.mono ?_
      rintro e w1 ⟨rfl, hb1⟩
      have K1 : Hid (Below w.heap.size w w1 ∧ Five w1 w.heap.size (.int .i64 0) (.string ⟨#[]⟩) (.string ⟨#[]⟩) (.string ⟨#[]⟩) (.slice none 0 0)) := ⟨K0.out.1.trans (hb1.mono K0.out.1.size), K0.out.2.keep hb1⟩
      have C2 := specRead_any (hmk rest) w1
      clear C hb1 K0 hcv HW
      go_wp2_with fail
      refine C2.mono ?_
      rintro e w2 ⟨⟨v, rfl, ho⟩, hb2⟩
      obtain ⟨a6, c6, rfl, hi6⟩ := ho.at
      obtain ⟨H, hH⟩ : ∃ H, readHL (hmk rest) = H := ⟨_, rfl⟩
      obtain ⟨hc, hhc⟩ : ∃ hc, readHC (hmk rest) = hc := ⟨_, rfl⟩
      have HHC : Hid (readHC (hmk rest) = hc ∧ readHL (hmk rest) = H) := ⟨hhc, hH⟩
      rw [hH] at ho hi6 ⊢
      rw [hhc] at ⊢
      obtain ⟨V2, hV2⟩ : ∃ V, V = w2.alloc (.cells #[.int .i64 hc, .slice a6 H.length c6] 109) := ⟨_, rfl⟩
      have HV2 : Hid (V2 = w2.alloc (.cells #[.int .i64 hc, .slice a6 H.length c6] 109)) := hV2
      have aV : Below w2.heap.size w2 V2 := by rw [hV2]; exact (Below.refl _ _).alloc (Nat.le_refl _) _
      have tV : Two V2 w2.heap.size (.int .i64 hc) (.slice a6 H.length c6) := by rw [hV2]; exact Two.new _ _ _ _
      have b2 := K1.out.1.trans (hb2.mono K1.out.1.size)
      have K2 : Hid (Below w.heap.size w V2 ∧ Five V2 w.heap.size (.int .i64 0) (.string ⟨#[]⟩) (.string ⟨#[]⟩) (.string ⟨#[]⟩) (.slice none 0 0) ∧ Two V2 w2.heap.size (.int .i64 hc) (.slice a6 H.length c6) ∧ HdsIn V2 a6 H) := ⟨b2.trans (aV.mono b2.size), (K1.out.2.keep hb2).keep aV, tV, hi6.keep aV⟩
      clear C2 hb2 K1 ho hi6 aV tV b2 hV2 hH hhc
      obtain ⟨r0, r1, r2, r3, r4, rf, _⟩ := K2.out.2.1
      have rf0 := rf 0
      have rf1 := rf 1
      have rf2 := rf 2
      have rf3 := rf 3
      have rf4 := rf 4
      clear rf
      obtain ⟨t0, t1, _, _⟩ := K2.out.2.2.1
      rw [HV2.out] at r0 r1 r2 r3 r4 rf0 rf1 rf2 rf3 rf4 t0 t1
      by_cases h0 : hc = 0
      · subst h0
        have HH0 : Hid (headsC H = 0) := by
          have := read_okH HHC.out.1
          rw [HHC.out.2] at this
          exact this
        obtain ⟨h20, hsz⟩ := heads_sizes HH0.out
        have HSZ : Hid (∀ (i : Nat) r, H[i]? = some r → r.name.size ≤ 64 ∧ r.value.size ≤ 200) := hsz
        have C3 := l5Words_any (hmk ln) V2 (by rw [hmk_size]; omega)
        rw [hmk_list] at C3
        have hcl := cutG_len 32 ln []
        obtain ⟨ws, hws⟩ : ∃ ws, cutG 32 [] ln = ws := ⟨_, rfl⟩
        have HWS : Hid (cutG 32 [] ln = ws) := hws
        rw [hws] at C3 hcl
        clear hws hsz
        go_wp2_with fail
        rw [← HV2.out]
        refine C3.mono ?_
        rintro e w3 ⟨⟨v7, rfl, ho7⟩, hb3⟩
        obtain ⟨a7, c7, rfl, _⟩ := ho7.shape
        rw [List.length_map] at ho7 ⊢
        have K3 : Hid (Below w.heap.size w w3 ∧ Five w3 w.heap.size (.int .i64 0) (.string ⟨#[]⟩) (.string ⟨#[]⟩) (.string ⟨#[]⟩) (.slice none 0 0) ∧ Two w3 w2.heap.size (.int .i64 0) (.slice a6 H.length c6) ∧ HdsIn w3 a6 H ∧ OwnS w3 0 (.slice a7 ws.length c7) (ws.map hmk)) := ⟨K2.out.1.trans (hb3.mono K2.out.1.size), K2.out.2.1.keep hb3, K2.out.2.2.1.keep hb3, K2.out.2.2.2.keep hb3, ho7.lower (Nat.zero_le _)⟩
        clear C3 hb3 K2 ho7 HV2 r0 r1 r2 r3 r4 rf0 rf1 rf2 rf3 rf4 t0 t1
        try clear V2
        generalize w2.heap.size = B6 at *
        try clear w2
        have C4 : Calls Tryz.prog 87 #[.slice a6 H.length c6, .string ⟨#[104, 111, 115, 116]⟩] w3 fun e w' => KeptRes w3.heap.size (dropH hostN H) e w' ∧ Below w3.heap.size w3 w' := by
          have := l4Drop_any w3 a6 c6 H hostN h20 (fun i r hr => (HSZ.out i r hr).1) (by decide) K3.out.2.2.2.1
          rw [hostN_low] at this
          exact this
        obtain ⟨t0, t1, _, _⟩ := K3.out.2.2.1
        go_wp2_with fail
        refine C4.mono ?_
        rintro e w4 ⟨⟨v8, rfl, ho8⟩, hb4⟩
        obtain ⟨a8, c8, rfl, _⟩ := ho8.at
        have K4 : Hid (Below w.heap.size w w4 ∧ Five w4 w.heap.size (.int .i64 0) (.string ⟨#[]⟩) (.string ⟨#[]⟩) (.string ⟨#[]⟩) (.slice none 0 0) ∧ Two w4 B6 (.int .i64 0) (.slice a6 H.length c6) ∧ HdsIn w4 a6 H ∧ OwnS w4 0 (.slice a7 ws.length c7) (ws.map hmk) ∧ OwnH w4 w3.heap.size (.slice a8 (dropH hostN H).length c8) (dropH hostN H) ∧ w.heap.size < w3.heap.size) := ⟨K3.out.1.trans (hb4.mono K3.out.1.size), K3.out.2.1.keep hb4, K3.out.2.2.1.keep hb4, K3.out.2.2.2.1.keep hb4, K3.out.2.2.2.2.below hb4, ho8, K3.out.2.1.lt⟩
        clear C4 hb4 K3 ho8 t0 t1
        generalize w3.heap.size = B8 at *
        try clear w3
        have C5 : Calls Tryz.prog 70 #[.slice a6 H.length c6, .string ⟨#[104, 111, 115, 116]⟩] w4 fun e w' => e = .returned (.tuple #[.string (hmk (hjoinL (valsOf hostN H))), .bool (anyV (valsOf hostN H))]) ∧ Below w4.heap.size w4 w' := by
          have := l4Join_any w4 a6 c6 H hostN h20 HSZ.out (by decide) K4.out.2.2.2.1
          rw [hostN_low] at this
          exact this
        obtain ⟨t0, t1, _, _⟩ := K4.out.2.2.1
        go_wp2_with fail
        refine C5.mono ?_
        rintro e w5 ⟨rfl, hb5⟩
        have K5 : Hid (Below w.heap.size w w5 ∧ Five w5 w.heap.size (.int .i64 0) (.string ⟨#[]⟩) (.string ⟨#[]⟩) (.string ⟨#[]⟩) (.slice none 0 0) ∧ Two w5 B6 (.int .i64 0) (.slice a6 H.length c6) ∧ OwnS w5 0 (.slice a7 ws.length c7) (ws.map hmk) ∧ OwnH w5 B8 (.slice a8 (dropH hostN H).length c8) (dropH hostN H) ∧ w.heap.size < B8) := ⟨K4.out.1.trans (hb5.mono K4.out.1.size), K4.out.2.1.keep hb5, K4.out.2.2.1.keep hb5, K4.out.2.2.2.2.1.below hb5, K4.out.2.2.2.2.2.1.below hb5, K4.out.2.2.2.2.2.2⟩
        clear C5 hb5 K4 t0 t1
        try clear w4
        have HDL : Hid ((hostOk H = true → valsOf hostN H ≠ [] ∧ (dropH hostN H).length + 1 = H.length) ∧ (hostOk H = false → (dropH hostN H).length + 1 ≠ H.length) ∧ (valsOf hostN H = [] → hostOk H = false)) := ⟨words_host, words_host_not, hostOk_none⟩
        have hdl := dropH_len hostN H
        have HBAD : Hid ((wordsOk ws && hostOk H) = false → R = (5, rq0)) := fun h => by rw [HRR.out]; exact readQ_words H8.out HF.out HHC.out.1 (by rw [HWS.out, HHC.out.2]; exact h)
        have HGOOD : Hid ((wordsOk ws && hostOk H) = true → (rqC (reqOf ws H) = 0 → R = (0, reqOf ws H)) ∧ (¬ rqC (reqOf ws H) = 0 → R = (rqC (reqOf ws H), rq0))) := fun h => by
          refine ⟨fun hq => ?_, fun hq => ?_⟩
          · rw [HRR.out, readQ_ok H8.out HF.out HHC.out.1 (by rw [HWS.out, HHC.out.2]; exact h) (by rw [HWS.out, HHC.out.2]; exact hq), HWS.out, HHC.out.2]
          · rw [HRR.out, readQ_fault H8.out HF.out HHC.out.1 (by rw [HWS.out, HHC.out.2]; exact h) (by rw [HWS.out, HHC.out.2]; exact hq), HWS.out, HHC.out.2]
        clear HRR HF H8 HWS HHC
        obtain ⟨r0, r1, r2, r3, r4, rf, _⟩ := K5.out.2.1
        have rf0 := rf 0
        have rf1 := rf 1
        have rf2 := rf 2
        have rf3 := rf 3
        have rf4 := rf 4
        clear rf
        obtain ⟨t0, t1, _, _⟩ := K5.out.2.2.1
        by_cases h3 : ws.length = 3
        · obtain ⟨x, y, z, rfl, hwk⟩ := wordsOk_at h3
          obtain ⟨g7, c7', e7⟩ := K5.out.2.2.2.1.isS (by simp)
          simp only [List.length_map, List.length_cons, List.length_nil, Nat.zero_add, Value.slice.injEq] at e7
          obtain ⟨rfl, _, rfl⟩ := e7
          have x0 : w5.cell? ⟨g7, 0, none⟩ = some (.string (hmk x)) := K5.out.2.2.2.1.cellAt 0 (hmk x) rfl
          have x1 : w5.cell? ⟨g7, 1, none⟩ = some (.string (hmk y)) := K5.out.2.2.2.1.cellAt 1 (hmk y) rfl
          have x2 : w5.cell? ⟨g7, 2, none⟩ = some (.string (hmk z)) := K5.out.2.2.2.1.cellAt 2 (hmk z) rfl
          simp only [List.length_cons, List.length_nil, Nat.zero_add, Nat.reduceAdd]
          rw [show ((3 : Nat) : Int) = 3 from rfl]
          by_cases hz : z = verL
          · have dz : ((hmk z).toList == [72, 84, 84, 80, 47, 49, 46, 49]) = true := lit_is (by rw [hmk_list, hz]; rfl)
            rw [decide_eq_true hz] at hwk
            have HV : Hid (reqOf [x, y, z] H = ⟨hmk x, hmk (hjoinL (valsOf hostN H)), hmk y, dropH hostN H⟩) := rfl
            by_cases hv : valsOf hostN H = []
            · have da : anyV (valsOf hostN H) = false := anyV_nil hv
              have HE : Hid (R = (5, rq0)) := HBAD.out (by rw [HDL.out.2.2 hv, Bool.and_false])
              clear HBAD HGOOD hwk HDL h3 HV hv
              generalize hmk z = zt at *
              generalize anyV (valsOf hostN H) = av at *
              generalize hmk (hjoinL (valsOf hostN H)) = ht at *
              go_wp2_with fail
              have T2 := five_put (v0 := .int .i64 5) (v1 := .string ⟨#[]⟩) (v2 := .string ⟨#[]⟩) (v3 := .string ⟨#[]⟩) (v4 := .slice none 0 0) K5.out.2.1
              unfold put5 at T2
              exact bodyPost_ret (v := .agg #[.int .i64 5, .string ⟨#[]⟩, .string ⟨#[]⟩, .string ⟨#[]⟩, .slice none 0 0]) (by simp [results, Tryz.results28, go_sem, T2.c0, T2.c1, T2.c2, T2.c3, T2.c4]) rfl ⟨by rw [HE.out]; exact QGot.zero _ _ _, Below.put5 K5.out.1 (Nat.le_refl _)⟩
            · have da : anyV (valsOf hostN H) = true := anyV_some hv
              cases ho : hostOk H with
              | false =>
                have hne := HDL.out.2.1 ho
                have HE : Hid (R = (5, rq0)) := HBAD.out (by rw [ho, Bool.and_false])
                have dl : (((dropH hostN H).length : Int) == (H.length : Int) - 1) = false := int_ne_beq (by omega)
                clear HBAD HGOOD hwk HDL h3 HV hv hne ho
                generalize hmk z = zt at *
                generalize anyV (valsOf hostN H) = av at *
                generalize hmk (hjoinL (valsOf hostN H)) = ht at *
                go_wp2_with fail
                have T2 := five_put (v0 := .int .i64 5) (v1 := .string ⟨#[]⟩) (v2 := .string ⟨#[]⟩) (v3 := .string ⟨#[]⟩) (v4 := .slice none 0 0) K5.out.2.1
                unfold put5 at T2
                exact bodyPost_ret (v := .agg #[.int .i64 5, .string ⟨#[]⟩, .string ⟨#[]⟩, .string ⟨#[]⟩, .slice none 0 0]) (by simp [results, Tryz.results28, go_sem, T2.c0, T2.c1, T2.c2, T2.c3, T2.c4]) rfl ⟨by rw [HE.out]; exact QGot.zero _ _ _, Below.put5 K5.out.1 (Nat.le_refl _)⟩
              | true =>
                have hne := (HDL.out.1 ho).2
                obtain ⟨g1, g2⟩ := HGOOD.out (by rw [hwk, ho]; rfl)
                have HG : Hid ((rqC (reqOf [x, y, z] H) = 0 → R = (0, reqOf [x, y, z] H)) ∧ (¬ rqC (reqOf [x, y, z] H) = 0 → R = (rqC (reqOf [x, y, z] H), rq0))) := ⟨g1, g2⟩
                have dl : (((dropH hostN H).length : Int) == (H.length : Int) - 1) = true := by rw [beq_iff_eq]; omega
                have HRF : Hid (∀ X, HdsIn X a8 (dropH hostN H) → Calls Tryz.prog 17 #[.agg #[.string (hmk x), .string (hmk (hjoinL (valsOf hostN H))), .string (hmk y), .slice a8 (dropH hostN H).length c8]] X fun e w' => e = .returned (.int .i64 (rqC (reqOf [x, y, z] H))) ∧ Below X.heap.size X w') := fun X hx => specReq_any X (hmk x) _ (hmk y) a8 c8 (dropH hostN H) (by omega) hx
                obtain ⟨cq, hcq⟩ : ∃ cq, rqC (reqOf [x, y, z] H) = cq := ⟨_, rfl⟩
                have hqv := HV.out
                obtain ⟨rq, hrq⟩ : ∃ rq, reqOf [x, y, z] H = rq := ⟨_, rfl⟩
                rw [hcq] at HG HRF
                rw [hrq] at HG hqv
                have HRQ : Hid (rq = ⟨hmk x, hmk (hjoinL (valsOf hostN H)), hmk y, dropH hostN H⟩) := hqv
                obtain ⟨dL, hdL⟩ : ∃ dL, dropH hostN H = dL := ⟨_, rfl⟩
                rw [hdL] at HRF HRQ K5 dl
                rw [hdL]
                clear HBAD HGOOD hwk HDL h3 HV hv hne ho g1 g2 hcq hrq hqv hdL hdl
                generalize hmk z = zt at *
                generalize anyV (valsOf hostN H) = av at *
                generalize hmk (hjoinL (valsOf hostN H)) = ht at *
                obtain ⟨dn, hdn⟩ : ∃ dn, dL.length = dn := ⟨_, rfl⟩
                have HDN : Hid (dL.length = dn) := hdn
                rw [hdn] at HRF K5 dl
                rw [hdn]
                clear hdn
                generalize hmk x = xt at *
                generalize hmk y = yt at *
                have y0 : ∀ o : Obj, (w5.alloc o).cell? ⟨g7, 0, none⟩ = some (.string xt) := fun o => f_keepA o x0
                have y1 : ∀ o : Obj, (w5.alloc o).cell? ⟨g7, 1, none⟩ = some (.string yt) := fun o => f_keepA o x1
                go_wp2_with fail
                go_region
                obtain ⟨W6, hW6⟩ : ∃ W, W = (w5.alloc (.cells #[.string xt, .string ht, .string yt, .slice a8 dn c8] 26)).drew := ⟨_, rfl⟩
                have HW6 : Hid (W6 = (w5.alloc (.cells #[.string xt, .string ht, .string yt, .slice a8 dn c8] 26)).drew) := hW6
                have a6' : Below w5.heap.size w5 W6 := by rw [hW6]; exact ((Below.refl _ _).alloc (Nat.le_refl _) _).drew
                have f6 : Four W6 w5.heap.size (.string xt) (.string ht) (.string yt) (.slice a8 dn c8) := by rw [hW6]; exact (Four.new _ _ _ _ _ _).keep (Below.refl _ _).drew
                have K6 : Hid (Below w.heap.size w W6 ∧ Five W6 w.heap.size (.int .i64 0) (.string ⟨#[]⟩) (.string ⟨#[]⟩) (.string ⟨#[]⟩) (.slice none 0 0) ∧ Four W6 w5.heap.size (.string xt) (.string ht) (.string yt) (.slice a8 dn c8) ∧ OwnH W6 B8 (.slice a8 dn c8) dL ∧ w.heap.size < B8) := ⟨K5.out.1.trans (a6'.mono K5.out.1.size), K5.out.2.1.keep a6', f6, K5.out.2.2.2.2.1.below a6', K5.out.2.2.2.2.2⟩
                have C7 := HRF.out W6 (own_in K6.out.2.2.2.1).2
                clear K5 HRF hW6 a6' f6 r0 r1 r2 r3 r4 rf0 rf1 rf2 rf3 rf4 t0 t1
                go_wp2_with fail
                rw [← HW6.out]
                refine C7.mono ?_
                rintro e w7 ⟨rfl, hb7⟩
                have K7 : Hid (Below w.heap.size w w7 ∧ Five w7 w.heap.size (.int .i64 0) (.string ⟨#[]⟩) (.string ⟨#[]⟩) (.string ⟨#[]⟩) (.slice none 0 0) ∧ Four w7 w5.heap.size (.string xt) (.string ht) (.string yt) (.slice a8 dn c8) ∧ OwnH w7 B8 (.slice a8 dn c8) dL ∧ w.heap.size < B8) := ⟨K6.out.1.trans (hb7.mono K6.out.1.size), K6.out.2.1.keep hb7, K6.out.2.2.1.keep hb7, K6.out.2.2.2.1.below hb7, K6.out.2.2.2.2⟩
                clear C7 hb7 K6 HW6
                try clear W6
                generalize w5.heap.size = B9 at *
                obtain ⟨r0, r1, r2, r3, r4, rf, _⟩ := K7.out.2.1
                have rf0 := rf 0
                have rf1 := rf 1
                have rf2 := rf 2
                have rf3 := rf 3
                have rf4 := rf 4
                clear rf
                by_cases hq : cq = 0
                · subst hq
                  have HE : Hid (R = (0, ⟨xt, ht, yt, dL⟩)) := by show _ = _; rw [HG.out.1 rfl, HRQ.out]
                  clear HG HRQ
                  obtain ⟨s0, s1, s2, s3, _, _⟩ := K7.out.2.2.1
                  go_wp2_with fail
                  have T2 := five_put (v0 := .int .i64 0) (v1 := .string xt) (v2 := .string ht) (v3 := .string yt) (v4 := .slice a8 dn c8) K7.out.2.1
                  have HO := ownH_put5 (v0 := .int .i64 0) (v1 := .string xt) (v2 := .string ht) (v3 := .string yt) (v4 := .slice a8 dn c8) K7.out.2.2.2.1 K7.out.2.2.2.2
                  unfold put5 at T2
                  exact bodyPost_ret (v := .agg #[.int .i64 0, .string xt, .string ht, .string yt, .slice a8 dn c8]) (by simp [results, Tryz.results28, go_sem, T2.c0, T2.c1, T2.c2, T2.c3, T2.c4]) rfl ⟨by rw [HE.out]; exact ⟨_, rfl, HO.lower (Nat.le_of_lt K7.out.2.2.2.2)⟩, Below.put5 K7.out.1 (Nat.le_refl _)⟩
                · have HE : Hid (R = (cq, rq0)) := HG.out.2 hq
                  clear HG HRQ
                  go_wp2_with fail
                  have T2 := five_put (v0 := .int .i64 cq) (v1 := .string ⟨#[]⟩) (v2 := .string ⟨#[]⟩) (v3 := .string ⟨#[]⟩) (v4 := .slice none 0 0) K7.out.2.1
                  unfold put5 at T2
                  exact bodyPost_ret (v := .agg #[.int .i64 cq, .string ⟨#[]⟩, .string ⟨#[]⟩, .string ⟨#[]⟩, .slice none 0 0]) (by simp [results, Tryz.results28, go_sem, T2.c0, T2.c1, T2.c2, T2.c3, T2.c4]) rfl ⟨by rw [HE.out]; exact QGot.zero _ _ _, Below.put5 K7.out.1 (Nat.le_refl _)⟩
          · have dz : ((hmk z).toList == [72, 84, 84, 80, 47, 49, 46, 49]) = false := lit_not (by rw [hmk_list]; exact hz)
            have HE : Hid (R = (5, rq0)) := HBAD.out (by rw [hwk, decide_eq_false hz]; rfl)
            clear HBAD HGOOD hwk hz HDL h3
            generalize hmk z = zt at *
            generalize anyV (valsOf hostN H) = av at *
            generalize hmk (hjoinL (valsOf hostN H)) = ht at *
            go_wp2_with fail
            have T2 := five_put (v0 := .int .i64 5) (v1 := .string ⟨#[]⟩) (v2 := .string ⟨#[]⟩) (v3 := .string ⟨#[]⟩) (v4 := .slice none 0 0) K5.out.2.1
            unfold put5 at T2
            exact bodyPost_ret (v := .agg #[.int .i64 5, .string ⟨#[]⟩, .string ⟨#[]⟩, .string ⟨#[]⟩, .slice none 0 0]) (by simp [results, Tryz.results28, go_sem, T2.c0, T2.c1, T2.c2, T2.c3, T2.c4]) rfl ⟨by rw [HE.out]; exact QGot.zero _ _ _, Below.put5 K5.out.1 (Nat.le_refl _)⟩
        · have d3 : ((ws.length : Int) == 3) = false := int_ne_beq (by omega)
          have HE : Hid (R = (5, rq0)) := HBAD.out (by rw [wordsOk_len h3]; rfl)
          clear HBAD HGOOD h3 HDL
          generalize anyV (valsOf hostN H) = av at *
          generalize hmk (hjoinL (valsOf hostN H)) = ht at *
          go_wp2_with fail
          have T2 := five_put (v0 := .int .i64 5) (v1 := .string ⟨#[]⟩) (v2 := .string ⟨#[]⟩) (v3 := .string ⟨#[]⟩) (v4 := .slice none 0 0) K5.out.2.1
          unfold put5 at T2
          exact bodyPost_ret (v := .agg #[.int .i64 5, .string ⟨#[]⟩, .string ⟨#[]⟩, .string ⟨#[]⟩, .slice none 0 0]) (by simp [results, Tryz.results28, go_sem, T2.c0, T2.c1, T2.c2, T2.c3, T2.c4]) rfl ⟨by rw [HE.out]; exact QGot.zero _ _ _, Below.put5 K5.out.1 (Nat.le_refl _)⟩
      · have HE : Hid (R = (hc, rq0)) := by
          show _ = _
          rw [HRR.out, readQ_heads H8.out HF.out (by rw [HHC.out.1]; exact h0), HHC.out.1]
        clear HRR HF H8 HHC
        go_wp2_with fail
        rw [← HV2.out]
        have T2 := five_put (v0 := .int .i64 hc) (v1 := .string ⟨#[]⟩) (v2 := .string ⟨#[]⟩) (v3 := .string ⟨#[]⟩) (v4 := .slice none 0 0) K2.out.2.1
        unfold put5 at T2
        exact bodyPost_ret (v := .agg #[.int .i64 hc, .string ⟨#[]⟩, .string ⟨#[]⟩, .string ⟨#[]⟩, .slice none 0 0]) (by simp [results, Tryz.results28, go_sem, T2.c0, T2.c1, T2.c2, T2.c3, T2.c4]) rfl ⟨by rw [HE.out]; exact QGot.zero _ _ _, Below.put5 K2.out.1 (Nat.le_refl _)⟩
end Go.Proofs.YtojcjpdgjohldaaGreatDoor
/-
  What queryPieces answers.
-/
namespace Go.Proofs.YtojcjpdgjohldaaGreatDoor
open Go.ChangeShapes Go.WideShapes Go.ChangeAt Go.RowKit
set_option maxHeartbeats 1000000 in
theorem amp_any (x : Nat) (w : World) : Calls Tryz.prog 141 #[.int .i32 (x : Int)] w fun e w' => e = .returned (.bool (amp x)) ∧ w' = w := by
  have HE : Hid (amp x = ((x : Int) == 38)) := by
    show _ = _
    unfold amp
    by_cases h : x = 38
    · subst h; rfl
    · rw [beq_eq_false_iff_ne.2 h, beq_eq_false_iff_ne.2 (by omega)]
  go_enter Tryz.func141, Tryz.ntmps141
  go_wp2
  go_ret
  exact ⟨by rw [HE.out]; rfl, rfl⟩
def qParts (s : ByteArray) : List (List UInt8) := fullP (cutG 38 [] s.data.toList)
theorem qParts_len (s : ByteArray) : (qParts s).length ≤ s.size + 1 := by
  have h1 := fullP_len (cutG 38 [] s.data.toList)
  have h2 := cutG_len 38 s.data.toList []
  rw [hsize_list] at h2
  unfold qParts
  omega
theorem fields_any (s : ByteArray) (w : World) (hs : s.size ≤ 6000) (ha : ∀ (i : Nat) (h : i < s.size), s[i].toNat < 128) :
    Calls Tryz.prog 140 #[.string s, .func (.func 141) #[] #[]] w fun e w' => ∃ A, e = .returned (.slice (some ⟨A, 0, none⟩) (qParts s).length (qParts s).length) ∧ OwnS w' w.heap.size (.slice (some ⟨A, 0, none⟩) (qParts s).length (qParts s).length) ((qParts s).map hmk) ∧ Below w.heap.size w w' := by
  have hp : PredAtRunes Tryz.prog 141 #[] amp w := fun W x _ _ => (amp_any x W).mono fun e w' ⟨h1, h2⟩ => ⟨h1, 0, by rw [h2]; rfl⟩
  have h := Any.strings_FieldsFunc_runes Tryz.lays229 141 #[] (enters_of Tryz.func141 (by kernel_rfl) rfl) amp s w (by omega) hp (by kernel_rfl) (by kernel_rfl)
  have e1 : Lib.goFieldsP amp s = (qParts s).map hmk := fields_amp s ha
  rw [e1, List.length_map] at h
  refine h.mono ?_
  rintro e w' ⟨A, h1, _, h3, h4⟩
  refine ⟨A, h1, ?_, h4⟩
  unfold OwnS textsW
  rw [List.length_map]
  exact h3
theorem textsW_enc (l : List (List UInt8)) : textsW (l.map hmk) = l.map encStr := by
  unfold textsW
  rw [List.map_map]
  rfl
theorem sort_own (P : List (List UInt8)) (w w1 : World) (A : Nat) (hP : P.length ≤ 6001) (ho : OwnS w1 w.heap.size (.slice (some ⟨A, 0, none⟩) P.length P.length) (P.map hmk)) (hb : Below w.heap.size w w1) :
    Calls Tryz.prog 142 #[.slice (some ⟨A, 0, none⟩) P.length P.length] w1 fun e w' => e = .returned (.tuple #[]) ∧ OwnS w' w.heap.size (.slice (some ⟨A, 0, none⟩) P.length P.length) ((sortS P).map hmk) ∧ Below w.heap.size w w' := by
  obtain ⟨h0, h1 | ⟨g, c, cur, e, hg, hh, hc1, hc2, hc3, hc4⟩⟩ := ho
  · exact absurd h1.1 (by simp)
  · simp only [Value.slice.injEq, Option.some.injEq, Addr.mk.injEq, and_true] at e
    obtain ⟨rfl, _, rfl⟩ := e
    rw [textsW_enc, List.length_map] at hc4
    rw [List.length_map] at hc1
    have hlt := (Array.getElem?_eq_some_iff.1 hh).1
    refine (Any.slices_Sort_string Tryz.lays190 A 0 P.length P w1 (holds_of_block hh (by simpa using hc4)) hlt (by omega)).mono ?_
    rintro e w2 ⟨rfl, n, os, rfl⟩
    rw [merge_eq]
    refine ⟨rfl, ?_, hb.grown (grownBy_sorted _) hb.size (fun j hj => by cases hj; exact hg)⟩
    have e2 := ownsRow_sorted (n := n) (os := os) (sortS_len P) hg hh hc1 hc2 (by simpa using hc3)
    unfold OwnS
    rw [textsW_enc, List.length_map, sortS_len]
    exact e2
set_option maxRecDepth 100000 in
set_option maxHeartbeats 2000000 in
theorem queryPieces_any (s : ByteArray) (w : World) (hs : s.size ≤ 6000) (ha : ∀ (i : Nat) (h : i < s.size), s[i].toNat < 128) :
    Calls Tryz.prog 96 #[.string s] w fun e w' => CutRes (sortS (qParts s)) w.heap.size e w' ∧ Below w.heap.size w w' := by
  have C := fields_any s w hs ha
  have hQ := qParts_len s
  generalize qParts s = P at *
  go_enter Tryz.func96, Tryz.ntmps96
  go_wp2_with fail
  refine C.mono ?_
  rintro e w1 ⟨A, rfl, ho, hb⟩
  have C2 := sort_own P w w1 A (by omega) ho hb
  clear ho hb C
  go_wp2_with fail
  refine C2.mono ?_
  rintro e w2 ⟨rfl, ho2, hb2⟩
  have HO : Hid (OwnS w2 w.heap.size (.slice (some ⟨A, 0, none⟩) P.length P.length) ((sortS P).map hmk)) := ho2
  have HB2 : Hid (Below w.heap.size w w2) := hb2
  clear C2 ho2 hb2
  go_wp2_with fail
  go_ret
  exact ⟨⟨_, rfl, HO.out⟩, HB2.out⟩
end Go.Proofs.YtojcjpdgjohldaaGreatDoor
/-
  What KeyOf and its model answer.
-/
namespace Go.Proofs.YtojcjpdgjohldaaGreatDoor
open Go.ChangeShapes Go.WideShapes Go.ChangeAt Go.RowKit
def keyR (m h p : ByteArray) (l : List Hdr) : ByteArray := if reqC m h p l = 0 then hmk (keyT h p) else ⟨#[]⟩
theorem keyR_ok {m h p : ByteArray} {l : List Hdr} (c : reqC m h p l = 0) : keyR m h p l = hmk (keyT h p) := by rw [keyR, if_pos c]
theorem keyR_bad {m h p : ByteArray} {l : List Hdr} (c : ¬ reqC m h p l = 0) : keyR m h p l = ⟨#[]⟩ := by rw [keyR, if_neg c]
set_option maxRecDepth 100000 in
set_option maxHeartbeats 4000000 in
theorem specKey_any (w : World) (m h p : ByteArray) (a : Option Addr) (cap : Nat) (l : List Hdr) (hl : l.length ≤ 1048576) (hi : HdsIn w a l) :
    Calls Tryz.prog 49 #[.agg #[.string m, .string h, .string p, .slice a l.length cap]] w fun e w' => e = .returned (.agg #[.int .i64 (reqC m h p l), .string (keyR m h p l)]) ∧ Below w.heap.size w w' := by
  obtain ⟨W, hW⟩ : ∃ W, W = (w.alloc (.cells #[.string m, .string h, .string p, .slice a l.length cap] 26)).alloc (.cells #[.int .i64 0, .string ⟨#[]⟩] 50) := ⟨_, rfl⟩
  have HW : Hid (W = (w.alloc (.cells #[.string m, .string h, .string p, .slice a l.length cap] 26)).alloc (.cells #[.int .i64 0, .string ⟨#[]⟩] 50)) := hW
  have bW : Below w.heap.size w W := by rw [hW]; exact ((Below.refl _ _).alloc (Nat.le_refl _) _).alloc (by simp) _
  have f0 : Four W w.heap.size (.string m) (.string h) (.string p) (.slice a l.length cap) := by rw [hW]; exact (Four.new _ _ _ _ _ _).keep ((Below.refl _ _).alloc (Nat.le_refl _) _)
  have t0 : Two W (w.heap.size + 1) (.int .i64 0) (.string ⟨#[]⟩) := by
    rw [hW]
    have := Two.new (w.alloc (.cells #[.string m, .string h, .string p, .slice a l.length cap] 26)) (.int .i64 0) (.string ⟨#[]⟩) 50
    simpa using this
  have C := specReq_any W m h p a cap l hl (hi.keep bW)
  have K0 : Hid (Below w.heap.size w W ∧ Four W w.heap.size (.string m) (.string h) (.string p) (.slice a l.length cap) ∧ Two W (w.heap.size + 1) (.int .i64 0) (.string ⟨#[]⟩)) := ⟨bW, f0, t0⟩
  have HCC : Hid ((reqC m h p l = 0 → keyR m h p l = hmk (keyT h p) ∧ h.size ≤ 60 ∧ p.size ≤ 100) ∧ (¬ reqC m h p l = 0 → keyR m h p l = ⟨#[]⟩)) := ⟨fun c0 => ⟨keyR_ok c0, (method_size (reqC_zero c0).1).2⟩, keyR_bad⟩
  clear hW bW f0 t0 hi
  generalize keyR m h p l = kr at *
  generalize reqC m h p l = c at *
  have hc3 := K0.out.2.1.c3
  rw [HW.out] at hc3
  go_enter Tryz.func49, Tryz.ntmps49
  go_wp2_with fail
  rw [← HW.out]
  refine C.mono ?_
  rintro e w1 ⟨rfl, hb1⟩
  have K1 : Hid (Below w.heap.size w w1 ∧ Four w1 w.heap.size (.string m) (.string h) (.string p) (.slice a l.length cap) ∧ Two w1 (w.heap.size + 1) (.int .i64 0) (.string ⟨#[]⟩)) := ⟨K0.out.1.trans (hb1.mono K0.out.1.size), K0.out.2.1.keep hb1, K0.out.2.2.keep hb1⟩
  clear C hb1 K0 HW hc3
  by_cases c0 : c = 0
  · subst c0
    obtain ⟨z1, z2, z3⟩ := HCC.out.1 rfl
    have C5 := l5Key_any w1 w.heap.size m h p _ K1.out.2.1 z2 z3
    have HR : Hid (kr = hmk (keyT h p)) := z1
    clear z1 HCC
    generalize hmk (keyT h p) = kt at *
    go_wp2_with fail
    refine C5.mono ?_
    rintro e w2 ⟨rfl, hb2⟩
    have K2 : Hid (Below w.heap.size w w2 ∧ Two w2 (w.heap.size + 1) (.int .i64 0) (.string ⟨#[]⟩)) := ⟨K1.out.1.trans (hb2.mono K1.out.1.size), K1.out.2.2.keep hb2⟩
    clear C5 hb2 K1
    obtain ⟨r0, r1, rf, _⟩ := K2.out.2
    have rf0 := rf 0
    have rf1 := rf 1
    clear rf
    go_wp2_with fail
    have T2 := two_put (v0 := .int .i64 0) (v1 := .string kt) K2.out.2
    exact bodyPost_ret (v := .agg #[.int .i64 0, .string kt]) (by simp [results, Tryz.results49, go_sem, T2.c0, T2.c1]) rfl ⟨by rw [HR.out], (K2.out.1.setCell (by simp) _).setCell (by simp) _⟩
  · have HR : Hid (kr = ⟨#[]⟩) := HCC.out.2 c0
    obtain ⟨r0, r1, rf, _⟩ := K1.out.2.2
    have rf0 := rf 0
    have rf1 := rf 1
    clear rf HCC
    go_wp2_with fail
    have T2 := two_put (v0 := .int .i64 c) (v1 := .string ⟨#[]⟩) K1.out.2.2
    exact bodyPost_ret (v := .agg #[.int .i64 c, .string ⟨#[]⟩]) (by simp [results, Tryz.results49, go_sem, T2.c0, T2.c1]) rfl ⟨by rw [HR.out], (K1.out.1.setCell (by simp) _).setCell (by simp) _⟩
/-! ### KeyOf itself -/
theorem qAt_pat : ∀ l : List UInt8, qAt l = patAt [63] l
  | [] => rfl
  | x :: r => by
    rw [qAt, patAt, pre_one, qAt_pat r]
    by_cases h : x = 63
    · simp [h]
    · simp [h]; try omega
theorem kcut_any (p : ByteArray) (w : World) (hm : MaxIs w) (hp : p.size ≤ 6000) :
    Calls Tryz.prog 95 #[.string p, .string ⟨#[63]⟩] w fun e w' => e = .returned (.tuple #[.string (hmk (p.data.toList.take (qAt p.data.toList))), .string (hmk (p.data.toList.drop (qAt p.data.toList + 1))), .bool (decide (qAt p.data.toList < p.data.toList.length))]) ∧ Below w.heap.size w w' := by
  obtain ⟨m, hm⟩ := hm
  have h := Any.strings_Cut Tryz.laysM145.ton145 p ⟨#[63]⟩ m w (by omega) hm
  rw [show (⟨#[63]⟩ : ByteArray).data.toList = [63] from rfl] at h
  rw [qAt_pat]
  by_cases c : patAt [63] p.data.toList < p.data.toList.length
  · rw [cut_pat (by simp) c] at h
    rw [decide_eq_true c]
    exact h.mono fun e w' ⟨h1, n, h2⟩ => ⟨h1, h2 ▸ below_drewN w n⟩
  · rw [cut_pat_no (by simp) c] at h
    rw [decide_eq_false c, List.take_of_length_le (by omega), List.drop_of_length_le (by omega)]
    exact h.mono fun e w' ⟨h1, n, h2⟩ => ⟨h1, h2 ▸ below_drewN w n⟩
theorem join_amp (w : World) (base : Nat) (v : Value) (xs : List ByteArray) (h : OwnS w base v xs) (hN : xs.length ≤ 1000000) (hlen : (Lib.join (xs.map (·.data.toList)) [38]).length ≤ 1000000) :
    Calls Tryz.prog 97 #[v, .string ⟨#[38]⟩] w fun e w' => e = .returned (.string ⟨(Lib.join (xs.map (·.data.toList)) [38]).toArray⟩) ∧ Below w.heap.size w w' := by
  have h0 := h
  obtain ⟨_, h1 | ⟨g, c, cur, rfl, _, hh, hcap, _⟩⟩ := h
  · have : xs = [] := List.eq_nil_of_length_eq_zero h1.2
    subst this
    rw [h1.1]
    exact (Any.strings_Join_none Tryz.lays156 joinExtra none 0 ⟨#[38]⟩ w).mono fun e w' ⟨he, hw⟩ => ⟨he, hw ▸ Below.refl _ _⟩
  · refine Any.strings_Join Tryz.lays156 joinExtra g 0 c xs ⟨#[38]⟩ w ?_ (Array.getElem?_eq_some_iff.1 hh).1 (by omega) hcap (by simpa using (by omega : (Lib.join (xs.map (·.data.toList)) [38]).length ≤ 140737488355328))
    intro j x hj
    have hj2 := (List.getElem?_eq_some_iff.1 hj).1
    have := World.ownsRow.cellAt h0 j (by omega)
    rw [show 0 + j = j from by omega]
    rw [this]
    simp [textsW, hj]
theorem hmk_back (S : List (List UInt8)) : (S.map hmk).map (·.data.toList) = S := by
  rw [List.map_map]
  have : ((fun x : ByteArray => x.data.toList) ∘ hmk) = id := by funext x; simp [hmk]
  rw [this, List.map_id]
theorem path_ascii {p : ByteArray} (h : pathS p = true) (k : Nat) : ∀ (i : Nat) (hi : i < (hmk (p.data.toList.drop k)).size), (hmk (p.data.toList.drop k))[i].toNat < 128 := by
  intro i hi
  have hm : (hmk (p.data.toList.drop k))[i] ∈ p.data.toList := by
    have h1 : (hmk (p.data.toList.drop k))[i] ∈ (hmk (p.data.toList.drop k)).data.toList := by
      show (hmk (p.data.toList.drop k)).data[i] ∈ _
      exact Array.mem_toList_iff.2 (Array.getElem_mem _)
    rw [hmk_list] at h1
    exact List.mem_of_mem_drop h1
  have h2 : allP pathI p.data.toList = true := by
    simp only [pathS, Bool.and_eq_true] at h
    exact h.2
  have h3 := allP_mem h2 _ hm
  by_cases c : (hmk (p.data.toList.drop k))[i].toNat < 128
  · exact c
  · rw [pathI_big _ (by omega)] at h3; cases h3
set_option maxRecDepth 100000 in
set_option maxHeartbeats 8000000 in
theorem implKey_any (E : Errs) (w : World) (m h p : ByteArray) (a : Option Addr) (cap : Nat) (l : List Hdr) (hl : l.length ≤ 1048576) (hcap : l.length ≤ cap) (hps : p.size ≤ 1048576) (hset : SetIs w) (hE : ErrsIs w E) (hmx : MaxIs w) (hi : HdsIn w a l) :
    Calls Tryz.prog 33 #[.agg #[.string m, .string h, .string p, .slice a l.length cap]] w fun e w' => e = .returned (.agg #[.int .i64 (reqC m h p l), .string (keyR m h p l)]) ∧ Below w.heap.size w w' := by
  obtain ⟨W, hW⟩ : ∃ W, W = (w.alloc (.cells #[.string m, .string h, .string p, .slice a l.length cap] 26)).alloc (.cells #[.int .i64 0, .string ⟨#[]⟩] 50) := ⟨_, rfl⟩
  have HW : Hid (W = (w.alloc (.cells #[.string m, .string h, .string p, .slice a l.length cap] 26)).alloc (.cells #[.int .i64 0, .string ⟨#[]⟩] 50)) := hW
  have bW : Below w.heap.size w W := by rw [hW]; exact ((Below.refl _ _).alloc (Nat.le_refl _) _).alloc (by simp) _
  have f0 : Four W w.heap.size (.string m) (.string h) (.string p) (.slice a l.length cap) := by rw [hW]; exact (Four.new _ _ _ _ _ _).keep ((Below.refl _ _).alloc (Nat.le_refl _) _)
  have t0 : Two W (w.heap.size + 1) (.int .i64 0) (.string ⟨#[]⟩) := by
    rw [hW]
    have := Two.new (w.alloc (.cells #[.string m, .string h, .string p, .slice a l.length cap] 26)) (.int .i64 0) (.string ⟨#[]⟩) 50
    simpa using this
  have C := implReq_any E W m h p a cap l hl hcap hps (hset.below bW) (hE.below bW) (hi.keep bW)
  have K0 : Hid (Below w.heap.size w W ∧ Four W w.heap.size (.string m) (.string h) (.string p) (.slice a l.length cap) ∧ Two W (w.heap.size + 1) (.int .i64 0) (.string ⟨#[]⟩)) := ⟨bW, f0, t0⟩
  have HM : Hid (∀ X, Below w.heap.size w X → MaxIs X) := fun X hb => hmx.below hb
  have HCC : Hid ((reqC m h p l = 0 → keyR m h p l = hmk (keyT h p) ∧ lineS m h p = true ∧ h.size ≤ 60 ∧ p.size ≤ 100) ∧ (¬ reqC m h p l = 0 → keyR m h p l = ⟨#[]⟩)) := ⟨fun c0 => ⟨keyR_ok c0, (reqC_zero c0).1, (method_size (reqC_zero c0).1).2⟩, keyR_bad⟩
  clear hW bW f0 t0 hi hset hE hmx
  generalize keyR m h p l = kr at *
  generalize reqC m h p l = c at *
  have hc3 := K0.out.2.1.c3
  rw [HW.out] at hc3
  go_enter Tryz.func33, Tryz.ntmps33
  go_wp2_with fail
  rw [← HW.out]
  refine C.mono ?_
  rintro e w1 ⟨rfl, hb1⟩
  have K1 : Hid (Below w.heap.size w w1 ∧ Four w1 w.heap.size (.string m) (.string h) (.string p) (.slice a l.length cap) ∧ Two w1 (w.heap.size + 1) (.int .i64 0) (.string ⟨#[]⟩)) := ⟨K0.out.1.trans (hb1.mono K0.out.1.size), K0.out.2.1.keep hb1, K0.out.2.2.keep hb1⟩
  clear C hb1 K0 HW hc3
  by_cases c0 : c = 0
  · subst c0
    obtain ⟨z1, y1, z2, z3⟩ := HCC.out.1 rfl
    have C5 := kcut_any p w1 (HM.out w1 K1.out.1) (by omega)
    have HPA := path_ascii (lineS_true y1).2.2 (qAt p.data.toList + 1)
    obtain ⟨S, hS⟩ : ∃ S, S = sortS (qParts (hmk (p.data.toList.drop (qAt p.data.toList + 1)))) := ⟨_, rfl⟩
    have hSk : S = keyParts p.data.toList := by rw [hS]; unfold qParts keyParts; rw [hmk_list]
    have hSl : S.length ≤ 101 := by rw [hSk]; have := keyParts_len p.data.toList; rw [hsize_list] at this; omega
    have hSs : sumL S ≤ 100 := by rw [hSk]; have := keyParts_sum p.data.toList; rw [hsize_list] at this; omega
    have HQ : Hid (∀ X, Calls Tryz.prog 96 #[.string (hmk (p.data.toList.drop (qAt p.data.toList + 1)))] X fun e w' => CutRes S X.heap.size e w' ∧ Below X.heap.size X w') := fun X => by
      rw [hS]
      exact queryPieces_any _ X (by rw [hmk_size, List.length_drop, hsize_list]; omega) HPA
    have HL : Hid (∀ X, Calls Tryz.prog 34 #[.string h] X fun e w' => e = .returned (.agg #[.int .i64 0, .string (lowS h)]) ∧ Below X.heap.size X w') := fun X => implLower_any h X (by omega)
    obtain ⟨o0, ho0⟩ : ∃ o : ByteArray, o = lowS h ++ hmk (p.data.toList.take (qAt p.data.toList)) := ⟨_, rfl⟩
    have so0 : o0.size ≤ 160 := by rw [ho0, ByteArray.size_append, lowS_size, hmk_size, List.length_take, hsize_list]; omega
    have add0 : ∀ X, (Op.stringOp .add (lowS h) (hmk (p.data.toList.take (qAt p.data.toList)))).run Tryz.prog X = .ok (.string o0) X := fun X => by rw [ho0]; exact run_string_add_sum X _ _ (by rw [lowS_size, hmk_size, List.length_take, hsize_list]; omega)
    have HR : Hid (∀ t : ByteArray, t.data.toList = o0.data.toList ++ keyQ S → t = kr) := fun t ht => by
      rw [z1]
      refine hof_list ?_
      rw [ht, ho0, happ_list, hmk_list, keyT, hSk]
    clear ho0 hS hSk HPA y1 z1 HCC
    generalize lowS h = lw at *
    generalize hmk (p.data.toList.take (qAt p.data.toList)) = pt at *
    generalize hmk (p.data.toList.drop (qAt p.data.toList + 1)) = qy at *
    generalize decide (qAt p.data.toList < p.data.toList.length) = fb at *
    have hft := f_field_text
    obtain ⟨q0, q1, q2, q3, _, _⟩ := K1.out.2.1
    go_wp2_with fail
    refine C5.mono ?_
    rintro e w2 ⟨rfl, hb2⟩
    have K2 : Hid (Below w.heap.size w w2 ∧ Four w2 w.heap.size (.string m) (.string h) (.string p) (.slice a l.length cap) ∧ Two w2 (w.heap.size + 1) (.int .i64 0) (.string ⟨#[]⟩)) := ⟨K1.out.1.trans (hb2.mono K1.out.1.size), K1.out.2.1.keep hb2, K1.out.2.2.keep hb2⟩
    clear C5 hb2 K1 q0 q1 q2 q3
    have C6 := HL.out w2
    obtain ⟨q0, q1, q2, q3, _, _⟩ := K2.out.2.1
    go_wp2_with fail
    refine C6.mono ?_
    rintro e w3 ⟨rfl, hb3⟩
    have K3 : Hid (Below w.heap.size w w3 ∧ Two w3 (w.heap.size + 1) (.int .i64 0) (.string ⟨#[]⟩)) := ⟨K2.out.1.trans (hb3.mono K2.out.1.size), K2.out.2.2.keep hb3⟩
    clear C6 hb3 K2 q0 q1 q2 q3 HL
    have C7 := HQ.out w3
    go_wp2_with fail
    refine C7.mono ?_
    rintro e w4 ⟨⟨v, rfl, ho⟩, hb4⟩
    have K4 : Hid (Below w.heap.size w w4 ∧ Two w4 (w.heap.size + 1) (.int .i64 0) (.string ⟨#[]⟩)) := ⟨K3.out.1.trans (hb4.mono K3.out.1.size), K3.out.2.keep hb4⟩
    obtain ⟨a5, c5, rfl, _⟩ := ho.shape
    rw [List.length_map] at ho ⊢
    have HO : Hid (OwnS w4 w3.heap.size (.slice a5 S.length c5) (S.map hmk)) := ho
    clear C7 hb4 K3 HQ ho
    obtain ⟨r0, r1, rf, _⟩ := K4.out.2
    have rf0 := rf 0
    have rf1 := rf 1
    clear rf
    by_cases hn : S.length = 0
    · have HE : Hid (o0 = kr) := by
        refine HR.out o0 ?_
        have : S = [] := List.eq_nil_of_length_eq_zero hn
        rw [this, keyQ_nil, List.append_nil]
      have gn : ¬ (0 : Int) < S.length := by omega
      clear HR HO
      generalize S.length = n at *
      go_wp2_with fail
      have T2 := two_put (v0 := .int .i64 0) (v1 := .string o0) K4.out.2
      exact bodyPost_ret (v := .agg #[.int .i64 0, .string o0]) (by simp [results, Tryz.results33, go_sem, T2.c0, T2.c1]) rfl ⟨by rw [HE.out], (K4.out.1.setCell (by simp) _).setCell (by simp) _⟩
    · have gn : (0 : Int) < S.length := by omega
      have hjl : (Lib.join S [38]).length ≤ 1000 := by
        have := keyQ_len S
        rw [keyQ, if_neg (fun e => hn (by rw [e]; rfl)), List.length_cons] at this
        omega
      have C8 := join_amp w4 w3.heap.size _ _ HO.out (by rw [List.length_map]; omega) (by rw [hmk_back]; omega)
      rw [hmk_back] at C8
      obtain ⟨j, hj⟩ : ∃ j : ByteArray, j = ⟨(Lib.join S [38]).toArray⟩ := ⟨_, rfl⟩
      rw [← hj] at C8
      have sj : j.size ≤ 1000 := by rw [hj]; show (Lib.join S [38]).toArray.size ≤ 1000; rw [List.size_toArray]; exact hjl
      have lit1 : (⟨#[63]⟩ : ByteArray).size = 1 := rfl
      obtain ⟨x1, hx1⟩ : ∃ x : ByteArray, x = ⟨#[63]⟩ ++ j := ⟨_, rfl⟩
      have sx1 : x1.size = 1 + j.size := by rw [hx1, ByteArray.size_append, lit1]
      have add1 : ∀ X, (Op.stringOp .add ⟨#[63]⟩ j).run Tryz.prog X = .ok (.string x1) X := fun X => by rw [hx1]; exact run_string_add_sum X _ _ (by omega)
      obtain ⟨x2, hx2⟩ : ∃ x : ByteArray, x = o0 ++ x1 := ⟨_, rfl⟩
      have add2 : ∀ X, (Op.stringOp .add o0 x1).run Tryz.prog X = .ok (.string x2) X := fun X => by rw [hx2]; exact run_string_add_sum X _ _ (by omega)
      have HE : Hid (x2 = kr) := by
        refine HR.out x2 ?_
        rw [hx2, happ_list, hx1, happ_list, hj, keyQ, if_neg (fun e => hn (by rw [e]; rfl))]
        simp
      clear HR HO hx1 hx2 hj sx1 lit1 sj hjl hn hSs hSl
      generalize S.length = n at *
      go_wp2_with fail
      refine C8.mono ?_
      rintro e w5 ⟨rfl, hb5⟩
      have K5 : Hid (Below w.heap.size w w5 ∧ Two w5 (w.heap.size + 1) (.int .i64 0) (.string ⟨#[]⟩)) := ⟨K4.out.1.trans (hb5.mono K4.out.1.size), K4.out.2.keep hb5⟩
      clear C8 hb5 K4 r0 r1 rf0 rf1
      obtain ⟨r0, r1, rf, _⟩ := K5.out.2
      have rf0 := rf 0
      have rf1 := rf 1
      clear rf
      go_wp2_with fail
      have T2 := two_put (v0 := .int .i64 0) (v1 := .string x2) K5.out.2
      exact bodyPost_ret (v := .agg #[.int .i64 0, .string x2]) (by simp [results, Tryz.results33, go_sem, T2.c0, T2.c1]) rfl ⟨by rw [HE.out], (K5.out.1.setCell (by simp) _).setCell (by simp) _⟩
  · have HR : Hid (kr = ⟨#[]⟩) := HCC.out.2 c0
    obtain ⟨r0, r1, rf, _⟩ := K1.out.2.2
    have rf0 := rf 0
    have rf1 := rf 1
    clear rf HM HCC
    go_wp2_with fail
    have T2 := two_put (v0 := .int .i64 c) (v1 := .string ⟨#[]⟩) K1.out.2.2
    exact bodyPost_ret (v := .agg #[.int .i64 c, .string ⟨#[]⟩]) (by simp [results, Tryz.results33, go_sem, T2.c0, T2.c1]) rfl ⟨by rw [HR.out], (K1.out.1.setCell (by simp) _).setCell (by simp) _⟩
end Go.Proofs.YtojcjpdgjohldaaGreatDoor
/-
  What requestIn answers.
-/
namespace Go.Proofs.YtojcjpdgjohldaaGreatDoor
open Go.ChangeShapes Go.WideShapes Go.ChangeAt Go.RowKit
theorem pat_cr : ∀ l : List UInt8, patAt [13, 10] l = crAt l
  | [] => rfl
  | [x] => by simp [patAt, crAt, List.isPrefixOf]
  | x :: y :: r => by
    rw [patAt, crAt, pat_cr (y :: r)]
    by_cases h : x = 13 ∧ y = 10
    · rw [if_pos h, if_pos (by simp [List.isPrefixOf, h.1, h.2])]
    · rw [if_neg h, if_neg ?_]
      intro e
      simp only [List.isPrefixOf, Bool.and_true, Bool.and_eq_true, beq_iff_eq] at e
      exact h ⟨e.1.symm, e.2.symm⟩
theorem mcut_yes (l : List UInt8) (w : World) (hm : MaxIs w) (hl : l.length ≤ 20000) (h : crAt l < l.length) :
    Calls Tryz.prog 95 #[.string (hmk l), .string ⟨#[13, 10]⟩] w fun e w' => e = .returned (.tuple #[.string (hmk (l.take (crAt l))), .string (hmk (l.drop (crAt l + 2))), .bool true]) ∧ Below w.heap.size w w' := by
  obtain ⟨m, hm⟩ := hm
  have := Any.strings_Cut Tryz.laysM145.ton145 (hmk l) ⟨#[13, 10]⟩ m w (by rw [hmk_size]; omega) hm
  rw [hmk_list, show (⟨#[13, 10]⟩ : ByteArray).data.toList = [13, 10] from rfl, cut_cr h] at this
  exact this.mono fun e w' ⟨h1, n, h2⟩ => ⟨h1, h2 ▸ below_drewN w n⟩
theorem mcut_no (l : List UInt8) (w : World) (hm : MaxIs w) (hl : l.length ≤ 20000) (h : ¬ crAt l < l.length) :
    Calls Tryz.prog 95 #[.string (hmk l), .string ⟨#[13, 10]⟩] w fun e w' => e = .returned (.tuple #[.string (hmk l), .string ⟨#[]⟩, .bool false]) ∧ Below w.heap.size w w' := by
  obtain ⟨m, hm⟩ := hm
  have := Any.strings_Cut Tryz.laysM145.ton145 (hmk l) ⟨#[13, 10]⟩ m w (by rw [hmk_size]; omega) hm
  rw [hmk_list, show (⟨#[13, 10]⟩ : ByteArray).data.toList = [13, 10] from rfl, cut_pat_no (by simp) (by rw [pat_cr]; exact h)] at this
  exact this.mono fun e w' ⟨h1, n, h2⟩ => ⟨h1, h2 ▸ below_drewN w n⟩
theorem msuffix (s : ByteArray) (w : World) (hs : s.size ≤ 20000) :
    Calls Tryz.prog 124 #[.string s, .string ⟨#[13, 10, 13, 10]⟩] w fun e w' => e = .returned (.bool (([13, 10, 13, 10] : List UInt8).isSuffixOf s.data.toList)) ∧ w' = w :=
  Any.strings_HasSuffix Tryz.lays100 s ⟨#[13, 10, 13, 10]⟩ w (by omega)
theorem mtrim (r : List UInt8) (w : World) (hr : r.length ≤ 20000) (h : okRest r = true) :
    Calls Tryz.prog 126 #[.string (hmk r), .string ⟨#[13, 10]⟩] w fun e w' => e = .returned (.string (hmk (r.take (r.length - 2)))) ∧ w' = w := by
  have := Any.strings_TrimSuffix Tryz.lays102 (hmk r) ⟨#[13, 10]⟩ w (by rw [hmk_size]; omega)
  rw [hmk_list, show (⟨#[13, 10]⟩ : ByteArray).data.toList = [13, 10] from rfl, Lib.trimSuffix, if_pos (okRest_suffix h)] at this
  exact this
theorem msplit (s : ByteArray) (w : World) (hm : MaxIs w) (hs : s.size ≤ 20000) :
    Calls Tryz.prog 127 #[.string s, .string ⟨#[32]⟩] w fun e w' => CutRes (cutG 32 [] s.data.toList) w.heap.size e w' ∧ Below w.heap.size w w' := by
  obtain ⟨m, hm⟩ := hm
  have := Any.strings_Split Tryz.lays146 infoStr s ⟨#[32]⟩ m w (by omega) hm (Nat.le_refl _)
  rw [cutG_count, splitB_cut] at this
  refine this.mono ?_
  rintro e w' ⟨rfl, rfl⟩
  have hl := cutG_len 32 s.data.toList []
  rw [hsize_list] at hl
  generalize cutG 32 [] s.data.toList = ws at *
  refine ⟨⟨_, rfl, ?_⟩, (Below.refl _ _).alloc (Nat.le_refl _) _⟩
  unfold OwnS
  refine ⟨by simp [textsW], .inr ⟨w.heap.size, ws.length, _, by rw [List.length_map], Nat.le_refl _, heap_alloc_new _ _, by simp, by unfold maxLen; omega, by simp, ?_⟩⟩
  simp only [textsW, List.map_map, List.length_map]
  exact List.take_of_length_le (by simp)
theorem own_in3 {w : World} {base : Nat} {a : Option Addr} {n c : Nat} {L : List Hdr} (h : OwnH w base (.slice a n c) L) : n = L.length ∧ HdsIn w a L ∧ L.length ≤ c := by
  have h1 := own_in h
  refine ⟨h1.1, h1.2, ?_⟩
  obtain ⟨_, h2 | ⟨g, c', cur, e, _, _, hc, _⟩⟩ := h
  · have e := List.eq_nil_of_length_eq_zero h2.2
    rw [e]; exact Nat.zero_le _
  · simp only [Value.slice.injEq] at e
    obtain ⟨_, _, rfl⟩ := e
    exact hc
theorem m_field_heads (c : Int) (a : Option Addr) (n k : Nat) (w : World) : (Instr.field 109 (.agg #[.int .i64 c, .slice a n k]) 1).run Tryz.prog w = .ok (.slice a n k) w := by kernel_rfl
def put4 (w : World) (B : Nat) (v0 v1 v2 v3 : Value) : World := (((w.setCell ⟨B, 0, none⟩ v0).setCell ⟨B, 1, none⟩ v1).setCell ⟨B, 2, none⟩ v2).setCell ⟨B, 3, none⟩ v3
theorem four_put {w : World} {B : Nat} {u0 u1 u2 u3 v0 v1 v2 v3 : Value} (h : Four w B u0 u1 u2 u3) : Four (put4 w B v0 v1 v2 v3) B v0 v1 v2 v3 := by
  have o : ∀ (X : World) (i j : Nat) (v : Value), i ≠ j → (X.setCell ⟨B, i, none⟩ v).cell? ⟨B, j, none⟩ = X.cell? ⟨B, j, none⟩ := fun X i j v hij => World.cell?_setCell_other _ _ _ _ (off_ne hij)
  unfold put4
  refine ⟨?_, ?_, ?_, ?_, fun o => by simp only [World.frozen?_setCell]; exact h.fr o, by simpa using h.lt⟩
  · rw [o _ _ _ _ (by omega), o _ _ _ _ (by omega), o _ _ _ _ (by omega)]; exact World.cell?_setCell_same _ _ _ h.c0
  · rw [o _ _ _ _ (by omega), o _ _ _ _ (by omega)]; exact World.cell?_setCell_same _ _ _ (by rw [o _ _ _ _ (by omega)]; exact h.c1)
  · rw [o _ _ _ _ (by omega)]; exact World.cell?_setCell_same _ _ _ (by rw [o _ _ _ _ (by omega), o _ _ _ _ (by omega)]; exact h.c2)
  · exact World.cell?_setCell_same _ _ _ (by rw [o _ _ _ _ (by omega), o _ _ _ _ (by omega), o _ _ _ _ (by omega)]; exact h.c3)
theorem Below.put4 {w w' : World} {base B : Nat} {v0 v1 v2 v3 : Value} (h : Below base w w') (hB : base ≤ B) : Below base w (put4 w' B v0 v1 v2 v3) :=
  (((h.setCell hB _).setCell hB _).setCell hB _).setCell hB _
theorem ownH_put4 {w : World} {base B : Nat} {v : Value} {l : List Hdr} {v0 v1 v2 v3 : Value} (h : OwnH w base v l) (hB : B < base) : OwnH (put4 w B v0 v1 v2 v3) base v l :=
  ownH_set (ownH_set (ownH_set (ownH_set h hB) hB) hB) hB
/-- What requestIn hands back: a request (of its own, where there is no error), and the error of a code. -/
def QIn (E : Errs) (c : Int) (q : Rq) (base : Nat) (e : Ending) (w : World) : Prop := ∃ m h p a n k, e = .returned (.tuple #[.agg #[.string m, .string h, .string p, .slice a n k], errV E c]) ∧ (c = 0 → q.m = m ∧ q.h = h ∧ q.p = p ∧ OwnH w base (.slice a n k) q.l)
theorem QIn.bad {E : Errs} {c : Int} {q : Rq} {base : Nat} {m h p : ByteArray} {a : Option Addr} {n k : Nat} {w : World} {ev : Value} (h0 : ¬ c = 0) (he : ev = errV E c) : QIn E c q base (.returned (.tuple #[.agg #[.string m, .string h, .string p, .slice a n k], ev])) w := ⟨m, h, p, a, n, k, by rw [he], fun h => absurd h h0⟩
end Go.Proofs.YtojcjpdgjohldaaGreatDoor
/-
  What requestIn answers.
-/
namespace Go.Proofs.YtojcjpdgjohldaaGreatDoor
open Go.ChangeShapes Go.WideShapes Go.ChangeAt Go.RowKit
theorem errV_iface (E : Errs) (c : Int) (h : ¬ c = 0) : ∃ p, errV E c = .iface 261 (.pointer (some p)) := by
  unfold errV
  rw [if_neg h]
  split
  · exact ⟨_, rfl⟩
  · split
    · exact ⟨_, rfl⟩
    · split
      · exact ⟨_, rfl⟩
      · exact ⟨_, rfl⟩
theorem readHC_codes (s : ByteArray) : readHC s = 0 ∨ readHC s = 2 ∨ readHC s = 5 := by
  unfold readHC
  split
  · simp
  · split
    · simp
    · exact headsC_codes _
theorem joinT_host {H : List Hdr} (h0 : headsC H = 0) : joinT H hostT = hmk (hjoinL (valsOf hostN H)) ∧ dropL H hostT = dropH hostN H ∧ askC H hostT = 0 := by
  have ha := askC_word h0 hostT_word
  refine ⟨?_, by rw [dropL_ok ha, hostT_low], ha⟩
  by_cases hv : valsOf (lowS hostT) H = []
  · rw [(join_none ha hv).2]
    rw [hostT_low] at hv
    rw [hv]; rfl
  · rw [(join_some ha hv).2, hostT_low]; rfl
/-- What lies in memory while a request that was read is asked for its error. -/
structure RQS (w : World) (xt ht yt : ByteArray) (a8 : Option Addr) (dn c8 B8 : Nat) (dL : List Hdr) (B : Nat) (X : World) : Prop where
  b : Below w.heap.size w X
  four : Four X B (.string xt) (.string ht) (.string yt) (.slice a8 dn c8)
  own : OwnH X B8 (.slice a8 dn c8) dL
  lt8 : w.heap.size < B8
  ltB : w.heap.size < B
  res : ∃ u0 u1 u2 u3, Four X w.heap.size u0 u1 u2 u3
theorem RQS.keep {w : World} {xt ht yt : ByteArray} {a8 : Option Addr} {dn c8 B8 : Nat} {dL : List Hdr} {B : Nat} {X X' : World} (h : RQS w xt ht yt a8 dn c8 B8 dL B X) (hb : Below X.heap.size X X') : RQS w xt ht yt a8 dn c8 B8 dL B X' := by
  obtain ⟨u0, u1, u2, u3, hr⟩ := h.res
  exact ⟨h.b.trans (hb.mono h.b.size), h.four.keep hb, h.own.below hb, h.lt8, h.ltB, ⟨u0, u1, u2, u3, hr.keep hb⟩⟩
theorem RQS.put {w : World} {xt ht yt : ByteArray} {a8 : Option Addr} {dn c8 B8 : Nat} {dL : List Hdr} {B : Nat} {X : World} (h : RQS w xt ht yt a8 dn c8 B8 dL B X) (v0 v1 v2 v3 : Value) : RQS w xt ht yt a8 dn c8 B8 dL B (put4 X w.heap.size v0 v1 v2 v3) ∧ Four (put4 X w.heap.size v0 v1 v2 v3) w.heap.size v0 v1 v2 v3 := by
  obtain ⟨u0, u1, u2, u3, hr⟩ := h.res
  have h4 := four_put (v0 := v0) (v1 := v1) (v2 := v2) (v3 := v3) hr
  have hlt := h.ltB
  have ot : ∀ (Y : World) (i j : Nat) (v : Value), (Y.setCell ⟨w.heap.size, i, none⟩ v).cell? ⟨B, j, none⟩ = Y.cell? ⟨B, j, none⟩ := fun Y i j v => World.cell?_setCell_other _ _ _ _ (fun e => by have := congrArg Addr.block e; simp only at this; omega)
  refine ⟨⟨Below.put4 h.b (Nat.le_refl _), ⟨?_, ?_, ?_, ?_, ?_, ?_⟩, ownH_put4 h.own h.lt8, h.lt8, h.ltB, ⟨_, _, _, _, h4⟩⟩, h4⟩
  · unfold put4; rw [ot, ot, ot, ot]; exact h.four.c0
  · unfold put4; rw [ot, ot, ot, ot]; exact h.four.c1
  · unfold put4; rw [ot, ot, ot, ot]; exact h.four.c2
  · unfold put4; rw [ot, ot, ot, ot]; exact h.four.c3
  · intro o; unfold put4; simp only [World.frozen?_setCell]; exact h.four.fr o
  · unfold put4; simpa using h.four.lt
set_option maxRecDepth 100000 in
set_option maxHeartbeats 16000000 in
theorem implReqIn_any (E : Errs) (w : World) (d : List UInt8) (h8 : ¬ 8000 < d.length) (hset : SetIs w) (hE : ErrsIs w E) (hmx : MaxIs w) :
    Calls Tryz.prog 75 #[.string (hmk d)] w fun e w' => QIn E (readQ d).1 (readQ d).2 w.heap.size e w' ∧ Below w.heap.size w w' := by
  obtain ⟨W, hW⟩ : ∃ W, W = w.alloc (.cells #[.string ⟨#[]⟩, .string ⟨#[]⟩, .string ⟨#[]⟩, .slice none 0 0] 26) := ⟨_, rfl⟩
  have HW : Hid (W = w.alloc (.cells #[.string ⟨#[]⟩, .string ⟨#[]⟩, .string ⟨#[]⟩, .slice none 0 0] 26)) := hW
  have bW : Below w.heap.size w W := by rw [hW]; exact (Below.refl _ _).alloc (Nat.le_refl _) _
  have f0 : Four W w.heap.size (.string ⟨#[]⟩) (.string ⟨#[]⟩) (.string ⟨#[]⟩) (.slice none 0 0) := by rw [hW]; exact Four.new _ _ _ _ _ _
  have K0 : Hid (Below w.heap.size w W ∧ Four W w.heap.size (.string ⟨#[]⟩) (.string ⟨#[]⟩) (.string ⟨#[]⟩) (.slice none 0 0)) := ⟨bW, f0⟩
  obtain ⟨R, hR⟩ : ∃ R, R = readQ d := ⟨_, rfl⟩
  have HRR : Hid (R = readQ d) := hR
  rw [← hR]
  have HE0 : Hid (∀ X, Below w.heap.size w X → ErrsIs X E) := fun X hb => hE.below hb
  have h3 : 3 < w.heap.size := block_lt_of_cell hE.gU
  have hne : ∀ (X : World) (i : Nat) (v : Value), (X.setCell ⟨w.heap.size, i, none⟩ v).cell? ⟨3, 0, none⟩ = X.cell? ⟨3, 0, none⟩ := fun X i v => World.cell?_setCell_other _ _ _ _ (fun e => by have := congrArg Addr.block e; simp only at this; omega)
  have HS : Hid (∀ X, Below w.heap.size w X → SetIs X ∧ MaxIs X) := fun X hb => ⟨hset.below hb, hmx.below hb⟩
  clear hR bW f0 hset hE hmx hW
  by_cases hc : crAt d < d.length
  · have C := mcut_yes d W (HS.out W K0.out.1).2 (by omega) hc
    have hr2 := crAt_room d hc
    obtain ⟨r, hr⟩ : ∃ r, d.drop (crAt d + 2) = r := ⟨_, rfl⟩
    have hrl : r.length + (crAt d + 2) = d.length := by rw [← hr, List.length_drop]; omega
    have hlnl : (d.take (crAt d)).length ≤ 8000 := by rw [List.length_take]; omega
    have HFY : Hid (okRest r = true → firstO d = some (d.take (crAt d), r.take (r.length - 2))) := fun h => by
      have := firstO_yes hc (by rw [hr]; exact h)
      rw [hr] at this
      rw [this]
      congr 3
      omega
    have HFN : Hid (okRest r = false → firstO d = none) := fun h => firstO_bad (by rw [hr]; exact h)
    rw [hr] at C
    have hrl2 : r.length ≤ 8000 := by omega
    have H8 : Hid (¬ 8000 < d.length) := h8
    clear hr hr2 hrl hc
    generalize d.take (crAt d) = ln at *
    generalize hmk d = t at *
    cases hok : okRest r with
    | false =>
      have HE : Hid (R = (5, rq0)) := by show _ = _; rw [HRR.out]; exact readQ_none h8 (HFN.out hok)
      have h1 : ¬ r = [13, 10] := fun e => by rw [okRest_is e] at hok; cases hok
      have d1 : ((hmk r).toList == [13, 10]) = false := lit_not (by rw [hmk_list]; exact h1)
      have C2 := fun X => msuffix (hmk r) X (by rw [hmk_size]; omega)
      rw [hmk_list, ← okRest_by h1, hok] at C2
      have HC2 : Hid (∀ X, Calls Tryz.prog 124 #[.string (hmk r), .string ⟨#[13, 10, 13, 10]⟩] X fun e w' => e = .returned (.bool false) ∧ w' = X) := C2
      clear HRR HFY HFN h1 hok C2 H8 h8
      generalize hmk r = rt at *
      generalize hmk ln = lt at *
      go_enter Tryz.func75, Tryz.ntmps75
      go_wp2_with fail
      rw [← HW.out]
      refine C.mono ?_
      rintro e w1 ⟨rfl, hb1⟩
      have K1 : Hid (Below w.heap.size w w1 ∧ Four w1 w.heap.size (.string ⟨#[]⟩) (.string ⟨#[]⟩) (.string ⟨#[]⟩) (.slice none 0 0)) := ⟨K0.out.1.trans (hb1.mono K0.out.1.size), K0.out.2.keep hb1⟩
      have C2 := HC2.out w1
      clear C hb1 K0 HW HC2
      go_wp2_with fail
      refine C2.mono ?_
      rintro e w2 ⟨rfl, hw⟩
      obtain rfl := hw.symm
      clear hw C2
      obtain ⟨r0, r1, r2, r3, rf, _⟩ := K1.out.2
      have rf0 := rf 0
      have rf1 := rf 1
      have rf2 := rf 2
      have rf3 := rf 3
      clear rf
      have gU := (HE0.out w1 K1.out.1).gU
      go_wp2_with fail
      go_region
      have T2 := (four_put (v0 := .string ⟨#[]⟩) (v1 := .string ⟨#[]⟩) (v2 := .string ⟨#[]⟩) (v3 := .slice none 0 0) K1.out.2).keep (Below.refl _ _).drew
      have BZ := (Below.put4 (v0 := .string ⟨#[]⟩) (v1 := .string ⟨#[]⟩) (v2 := .string ⟨#[]⟩) (v3 := .slice none 0 0) K1.out.1 (Nat.le_refl _)).drew
      unfold put4 at T2
      go_wp2_with fail
      exact bodyPost_ret (v := .tuple #[.agg #[.string ⟨#[]⟩, .string ⟨#[]⟩, .string ⟨#[]⟩, .slice none 0 0], .iface 261 (.pointer (some E.u))]) (by simp [results, Tryz.results75, go_sem, T2.c0, T2.c1, T2.c2, T2.c3]) rfl ⟨by rw [HE.out]; exact QIn.bad (by decide) rfl, BZ⟩
    | true =>
      have HF : Hid (firstO d = some (ln, r.take (r.length - 2))) := HFY.out hok
      have CT := fun X => mtrim r X (by omega) hok
      have HCT : Hid (∀ X, Calls Tryz.prog 126 #[.string (hmk r), .string ⟨#[13, 10]⟩] X fun e w' => e = .returned (.string (hmk (r.take (r.length - 2)))) ∧ w' = X) := CT
      have HSF : Hid (¬ r = [13, 10] → ∀ X, Calls Tryz.prog 124 #[.string (hmk r), .string ⟨#[13, 10, 13, 10]⟩] X fun e w' => e = .returned (.bool true) ∧ w' = X) := fun h1 X => by
        have := msuffix (hmk r) X (by rw [hmk_size]; omega)
        rw [hmk_list, ← okRest_by h1, hok] at this
        exact this
      have HLI : Hid ((r = [13, 10] → ((hmk r).toList == [13, 10]) = true) ∧ (¬ r = [13, 10] → ((hmk r).toList == [13, 10]) = false)) := ⟨fun h => lit_is (by rw [hmk_list]; exact h), fun h => lit_not (by rw [hmk_list]; exact h)⟩
      clear HFY HFN hok CT
      generalize r.take (r.length - 2) = rest at *
      generalize hmk r = rt at *
      go_enter Tryz.func75, Tryz.ntmps75
      go_wp2_with fail
      rw [← HW.out]
      refine C.mono ?_
      rintro e w1 ⟨rfl, hb1⟩
      have K1 : Hid (Below w.heap.size w w1 ∧ Four w1 w.heap.size (.string ⟨#[]⟩) (.string ⟨#[]⟩) (.string ⟨#[]⟩) (.slice none 0 0)) := ⟨K0.out.1.trans (hb1.mono K0.out.1.size), K0.out.2.keep hb1⟩
      have CT := HCT.out w1
      clear C hb1 K0 HW
      go_upto_region 2 with fail
      go_cut [29] from 19 to 29 (fun s29 wx => s29 = .bool false ∧ wx = w1)
      case first =>
        by_cases h1 : r = [13, 10]
        · have d1 := HLI.out.1 h1
          clear HLI HSF h1
          go_wp2_with fail
          go_meet
          exact ⟨rfl, rfl⟩
        · have d1 := HLI.out.2 h1
          have C2 := HSF.out h1 w1
          clear HLI HSF h1
          go_wp2_with fail
          refine C2.mono ?_
          rintro e w2 ⟨rfl, hw⟩
          obtain rfl := hw.symm
          clear hw C2
          go_wp2_with fail
          go_meet
          exact ⟨rfl, rfl⟩
      case rest =>
      obtain ⟨rfl, hwx⟩ := hcut
      obtain rfl := hwx.symm
      clear hwx HLI HSF HCT
      generalize hmk rest = rst at HRR
      go_wp2_with fail
      refine CT.mono ?_
      rintro e w2 ⟨rfl, hw⟩
      obtain rfl := hw.symm
      clear hw CT
      have C2 := implRead_any (hmk rest) w1 (HS.out w1 K1.out.1).1 (HS.out w1 K1.out.1).2
      go_wp2_with fail
      refine C2.mono ?_
      rintro e w2 ⟨⟨v, rfl, ho⟩, hb2⟩
      obtain ⟨a6, c6, rfl, hi6⟩ := ho.at
      have hcap6 := (own_in3 ho).2.2
      obtain ⟨H, hH⟩ : ∃ H, readHL (hmk rest) = H := ⟨_, rfl⟩
      obtain ⟨hc, hhc⟩ : ∃ hc, readHC (hmk rest) = hc := ⟨_, rfl⟩
      have HHC : Hid (readHC (hmk rest) = hc ∧ readHL (hmk rest) = H) := ⟨hhc, hH⟩
      have hcodes := readHC_codes (hmk rest)
      rw [hhc] at hcodes
      rw [hH] at ho hi6 hcap6 ⊢
      rw [hhc] at ⊢
      obtain ⟨V2, hV2⟩ : ∃ V, V = w2.alloc (.cells #[.int .i64 hc, .slice a6 H.length c6] 109) := ⟨_, rfl⟩
      have HV2 : Hid (V2 = w2.alloc (.cells #[.int .i64 hc, .slice a6 H.length c6] 109)) := hV2
      have aV : Below w2.heap.size w2 V2 := by rw [hV2]; exact (Below.refl _ _).alloc (Nat.le_refl _) _
      have tV : Two V2 w2.heap.size (.int .i64 hc) (.slice a6 H.length c6) := by rw [hV2]; exact Two.new _ _ _ _
      have b2 := K1.out.1.trans (hb2.mono K1.out.1.size)
      have K2 : Hid (Below w.heap.size w V2 ∧ Four V2 w.heap.size (.string ⟨#[]⟩) (.string ⟨#[]⟩) (.string ⟨#[]⟩) (.slice none 0 0) ∧ Two V2 w2.heap.size (.int .i64 hc) (.slice a6 H.length c6) ∧ HdsIn V2 a6 H) := ⟨b2.trans (aV.mono b2.size), (K1.out.2.keep hb2).keep aV, tV, hi6.keep aV⟩
      have C3 := headError_any E hc V2 (HE0.out V2 K2.out.1) hcodes
      clear C2 hb2 K1 ho hi6 aV tV b2 hV2 hH hhc
      obtain ⟨t0, t1, _, _⟩ := K2.out.2.2.1
      rw [HV2.out] at t0 t1
      by_cases h0 : hc = 0
      · subst h0
        rw [errV0] at C3
        have HH0 : Hid (headsC H = 0) := by
          have := read_okH HHC.out.1
          rw [HHC.out.2] at this
          exact this
        obtain ⟨h20, hsz⟩ := heads_sizes HH0.out
        clear hsz hcodes
        go_wp2_with fail
        rw [← HV2.out]
        refine C3.mono ?_
        rintro e w3 ⟨rfl, hw⟩
        obtain rfl := hw.symm
        clear hw C3 t0 t1 HV2
        generalize w2.heap.size = B6 at *
        try clear w2
        have C4 := msplit (hmk ln) V2 (HS.out V2 K2.out.1).2 (by rw [hmk_size]; omega)
        rw [hmk_list] at C4
        obtain ⟨ws, hws⟩ : ∃ ws, cutG 32 [] ln = ws := ⟨_, rfl⟩
        have HWS : Hid (cutG 32 [] ln = ws) := hws
        have hcl := cutG_len 32 ln []
        have hsum := cutG_sum 32 ln []
        rw [hws] at C4 hcl hsum
        clear hws
        go_wp2_with fail
        refine C4.mono ?_
        rintro e w3 ⟨⟨v7, rfl, ho7⟩, hb3⟩
        obtain ⟨a7, c7, rfl, _⟩ := ho7.shape
        rw [List.length_map] at ho7 ⊢
        have K3 : Hid (Below w.heap.size w w3 ∧ Four w3 w.heap.size (.string ⟨#[]⟩) (.string ⟨#[]⟩) (.string ⟨#[]⟩) (.slice none 0 0) ∧ Two w3 B6 (.int .i64 0) (.slice a6 H.length c6) ∧ HdsIn w3 a6 H ∧ OwnS w3 0 (.slice a7 ws.length c7) (ws.map hmk)) := ⟨K2.out.1.trans (hb3.mono K2.out.1.size), K2.out.2.1.keep hb3, K2.out.2.2.1.keep hb3, K2.out.2.2.2.keep hb3, ho7.lower (Nat.zero_le _)⟩
        clear C4 hb3 K2 ho7
        try clear V2
        obtain ⟨jh1, jh2, jh3⟩ := joinT_host HH0.out
        have C5 : Calls Tryz.prog 128 #[.slice a6 H.length c6, .string ⟨#[72, 111, 115, 116]⟩] w3 fun e w' => HRes 0 (dropH hostN H) w3.heap.size e w' ∧ Below w3.heap.size w3 w' := by
          have := implDrop_any w3 a6 c6 H hostT (by omega) (HS.out w3 K3.out.1).1 K3.out.2.2.2.1
          rw [jh2, jh3] at this
          exact this
        have HJN : Hid (∀ X, Below w.heap.size w X → HdsIn X a6 H → Calls Tryz.prog 92 #[.slice a6 H.length c6, .string ⟨#[72, 111, 115, 116]⟩] X fun e w' => e = .returned (.agg #[.int .i64 (joinC H hostT), .string (hmk (hjoinL (valsOf hostN H)))]) ∧ Below X.heap.size X w') := fun X hb hx => by
          have := implJoin_any X a6 c6 H hostT (by omega) hcap6 (HS.out X hb).1 hx
          rw [jh1] at this
          exact this
        obtain ⟨t0, t1, _, _⟩ := K3.out.2.2.1
        have hmf := m_field_heads
        go_wp2_with fail
        refine C5.mono ?_
        rintro e w4 ⟨⟨v8, rfl, ho8⟩, hb4⟩
        obtain ⟨a8, c8, rfl, _⟩ := ho8.at
        have hcap8 := (own_in3 ho8).2.2
        have K4 : Hid (Below w.heap.size w w4 ∧ Four w4 w.heap.size (.string ⟨#[]⟩) (.string ⟨#[]⟩) (.string ⟨#[]⟩) (.slice none 0 0) ∧ Two w4 B6 (.int .i64 0) (.slice a6 H.length c6) ∧ HdsIn w4 a6 H ∧ OwnS w4 0 (.slice a7 ws.length c7) (ws.map hmk) ∧ OwnH w4 w3.heap.size (.slice a8 (dropH hostN H).length c8) (dropH hostN H) ∧ w.heap.size < w3.heap.size) := ⟨K3.out.1.trans (hb4.mono K3.out.1.size), K3.out.2.1.keep hb4, K3.out.2.2.1.keep hb4, K3.out.2.2.2.1.keep hb4, K3.out.2.2.2.2.below hb4, ho8, K3.out.2.1.lt⟩
        clear C5 hb4 K3 ho8 t0 t1 jh1 jh2 jh3
        generalize w3.heap.size = B8 at *
        try clear w3
        have HDL : Hid ((hostOk H = true → valsOf hostN H ≠ [] ∧ (dropH hostN H).length + 1 = H.length) ∧ (hostOk H = false → (dropH hostN H).length + 1 ≠ H.length)) := ⟨words_host, words_host_not⟩
        have hdl := dropH_len hostN H
        have HBAD : Hid ((wordsOk ws && hostOk H) = false → R = (5, rq0)) := fun h => by rw [HRR.out]; exact readQ_words H8.out HF.out HHC.out.1 (by rw [HWS.out, HHC.out.2]; exact h)
        have HGOOD : Hid ((wordsOk ws && hostOk H) = true → (rqC (reqOf ws H) = 0 → R = (0, reqOf ws H)) ∧ (¬ rqC (reqOf ws H) = 0 → R = (rqC (reqOf ws H), rq0))) := fun h => by
          refine ⟨fun hq => ?_, fun hq => ?_⟩
          · rw [HRR.out, readQ_ok H8.out HF.out HHC.out.1 (by rw [HWS.out, HHC.out.2]; exact h) (by rw [HWS.out, HHC.out.2]; exact hq), HWS.out, HHC.out.2]
          · rw [HRR.out, readQ_fault H8.out HF.out HHC.out.1 (by rw [HWS.out, HHC.out.2]; exact h) (by rw [HWS.out, HHC.out.2]; exact hq), HWS.out, HHC.out.2]
        clear HRR HF H8 HWS HHC h8
        obtain ⟨t0, t1, _, _⟩ := K4.out.2.2.1
        by_cases hl3 : ws.length = 3
        · obtain ⟨x, y, z, rfl, hwk⟩ := wordsOk_at hl3
          obtain ⟨g7, c7', e7⟩ := K4.out.2.2.2.2.1.isS (by simp)
          simp only [List.length_map, List.length_cons, List.length_nil, Nat.zero_add, Value.slice.injEq] at e7
          obtain ⟨rfl, _, rfl⟩ := e7
          have x0 : w4.cell? ⟨g7, 0, none⟩ = some (.string (hmk x)) := K4.out.2.2.2.2.1.cellAt 0 (hmk x) rfl
          have x1 : w4.cell? ⟨g7, 1, none⟩ = some (.string (hmk y)) := K4.out.2.2.2.2.1.cellAt 1 (hmk y) rfl
          have x2 : w4.cell? ⟨g7, 2, none⟩ = some (.string (hmk z)) := K4.out.2.2.2.2.1.cellAt 2 (hmk z) rfl
          have HX01 : Hid (∀ X, Below w4.heap.size w4 X → X.cell? ⟨g7, 0, none⟩ = some (.string (hmk x)) ∧ X.cell? ⟨g7, 1, none⟩ = some (.string (hmk y))) := fun X hb => ⟨f_keep hb x0, f_keep hb x1⟩
          simp only [List.length_cons, List.length_nil, Nat.zero_add, Nat.reduceAdd]
          have d3 : (((3 : Nat) : Int) == 3) = true := rfl
          have d3n : (((3 : Nat) : Int) != 3) = false := rfl
          have d3m : ((3 : Int) != 3) = false := rfl
          have hyl : (hmk y).size ≤ 10100 := by
            simp only [sumL, List.map_cons, List.map_nil, List.sum_cons, List.sum_nil, List.length_nil] at hsum
            rw [hmk_size]
            omega
          by_cases hz : z = verL
          · have dz : ((hmk z).toList == [72, 84, 84, 80, 47, 49, 46, 49]) = true := lit_is (by rw [hmk_list, hz]; rfl)
            rw [decide_eq_true hz] at hwk
            cases ho : hostOk H with
            | false =>
              have hne2 := HDL.out.2 ho
              have HE : Hid (R = (5, rq0)) := HBAD.out (by rw [ho, Bool.and_false])
              have dl : ((H.length : Int) - ((dropH hostN H).length : Int) == 1) = false := int_ne_beq (by omega)
              have dln : ((H.length : Int) - ((dropH hostN H).length : Int) != 1) = true := by rw [bne, dl]; rfl
              clear HBAD HGOOD hwk HDL hl3 hne2 ho HJN HX01
              generalize hmk z = zt at *
              obtain ⟨r0, r1, r2, r3, rf, _⟩ := K4.out.2.1
              have rf0 := rf 0
              have rf1 := rf 1
              have rf2 := rf 2
              have rf3 := rf 3
              clear rf
              have gU := (HE0.out w4 K4.out.1).gU
              go_wp2_with fail
              go_region
              have T2 := (four_put (v0 := .string ⟨#[]⟩) (v1 := .string ⟨#[]⟩) (v2 := .string ⟨#[]⟩) (v3 := .slice none 0 0) K4.out.2.1).keep (Below.refl _ _).drew
              have BZ := (Below.put4 (v0 := .string ⟨#[]⟩) (v1 := .string ⟨#[]⟩) (v2 := .string ⟨#[]⟩) (v3 := .slice none 0 0) K4.out.1 (Nat.le_refl _)).drew
              unfold put4 at T2
              go_wp2_with fail
              exact bodyPost_ret (v := .tuple #[.agg #[.string ⟨#[]⟩, .string ⟨#[]⟩, .string ⟨#[]⟩, .slice none 0 0], .iface 261 (.pointer (some E.u))]) (by simp [results, Tryz.results75, go_sem, T2.c0, T2.c1, T2.c2, T2.c3]) rfl ⟨by rw [HE.out]; exact QIn.bad (by decide) rfl, BZ⟩
            | true =>
              have hne2 := (HDL.out.1 ho).2
              obtain ⟨g1, g2⟩ := HGOOD.out (by rw [hwk, ho]; rfl)
              have HG : Hid ((rqC (reqOf [x, y, z] H) = 0 → R = (0, reqOf [x, y, z] H)) ∧ (¬ rqC (reqOf [x, y, z] H) = 0 → R = (rqC (reqOf [x, y, z] H), rq0))) := ⟨g1, g2⟩
              have dl : ((H.length : Int) - ((dropH hostN H).length : Int) == 1) = true := by rw [beq_iff_eq]; omega
              have dln : ((H.length : Int) - ((dropH hostN H).length : Int) != 1) = false := by rw [bne, dl]; rfl
              have HRF : Hid (∀ X, Below w.heap.size w X → HdsIn X a8 (dropH hostN H) → Calls Tryz.prog 72 #[.agg #[.string (hmk x), .string (hmk (hjoinL (valsOf hostN H))), .string (hmk y), .slice a8 (dropH hostN H).length c8]] X fun e w' => e = .returned (errV E (rqC (reqOf [x, y, z] H))) ∧ Below X.heap.size X w') := fun X hb hx => implReqE_any E X (hmk x) _ (hmk y) a8 c8 (dropH hostN H) (by omega) hcap8 (by omega) (HS.out X hb).1 (HE0.out X hb) hx
              have hqv : reqOf [x, y, z] H = ⟨hmk x, hmk (hjoinL (valsOf hostN H)), hmk y, dropH hostN H⟩ := rfl
              obtain ⟨cq, hcq⟩ : ∃ cq, rqC (reqOf [x, y, z] H) = cq := ⟨_, rfl⟩
              obtain ⟨rq, hrq⟩ : ∃ rq, reqOf [x, y, z] H = rq := ⟨_, rfl⟩
              rw [hcq] at HG HRF
              rw [hrq] at HG hqv
              have HRQ : Hid (rq = ⟨hmk x, hmk (hjoinL (valsOf hostN H)), hmk y, dropH hostN H⟩) := hqv
              have C6 := HJN.out w4 K4.out.1 K4.out.2.2.2.1
              obtain ⟨dL, hdL⟩ : ∃ dL, dropH hostN H = dL := ⟨_, rfl⟩
              rw [hdL] at HRF HRQ K4 dl dln hdl
              rw [hdL]
              clear HBAD HGOOD hwk HDL hl3 hne2 ho g1 g2 hcq hrq hqv hdL HJN hcap8 hyl
              generalize hmk z = zt at *
              generalize joinC H hostT = jc at *
              generalize hmk (hjoinL (valsOf hostN H)) = ht at *
              obtain ⟨dn, hdn⟩ : ∃ dn, dL.length = dn := ⟨_, rfl⟩
              rw [hdn] at HRF K4 dl dln hdl
              rw [hdn]
              clear hdn
              generalize hmk x = xt at *
              generalize hmk y = yt at *
              have hft := f_field_text
              go_wp2_with fail
              refine C6.mono ?_
              rintro e w5 ⟨rfl, hb5⟩
              have K5 : Hid (Below w.heap.size w w5 ∧ Four w5 w.heap.size (.string ⟨#[]⟩) (.string ⟨#[]⟩) (.string ⟨#[]⟩) (.slice none 0 0) ∧ OwnH w5 B8 (.slice a8 dn c8) dL ∧ w.heap.size < B8) := ⟨K4.out.1.trans (hb5.mono K4.out.1.size), K4.out.2.1.keep hb5, K4.out.2.2.2.2.2.1.below hb5, K4.out.2.2.2.2.2.2⟩
              obtain ⟨p0, p1⟩ := HX01.out w5 hb5
              clear C6 hb5 K4 t0 t1 x0 x1 x2 HX01 dz dl dln hmf
              try clear w4
              have y0 : ∀ o : Obj, (w5.alloc o).cell? ⟨g7, 0, none⟩ = some (.string xt) := fun o => f_keepA o p0
              have y1 : ∀ o : Obj, (w5.alloc o).cell? ⟨g7, 1, none⟩ = some (.string yt) := fun o => f_keepA o p1
              go_wp2_with fail
              go_region
              obtain ⟨W6, hW6⟩ : ∃ W, W = (w5.alloc (.cells #[.string xt, .string ht, .string yt, .slice a8 dn c8] 26)).drew := ⟨_, rfl⟩
              have HW6 : Hid (W6 = (w5.alloc (.cells #[.string xt, .string ht, .string yt, .slice a8 dn c8] 26)).drew) := hW6
              have a6' : Below w5.heap.size w5 W6 := by rw [hW6]; exact ((Below.refl _ _).alloc (Nat.le_refl _) _).drew
              have f6 : Four W6 w5.heap.size (.string xt) (.string ht) (.string yt) (.slice a8 dn c8) := by rw [hW6]; exact (Four.new _ _ _ _ _ _).keep (Below.refl _ _).drew
              have B0 : Hid (RQS w xt ht yt a8 dn c8 B8 dL w5.heap.size W6.drew) := RQS.keep ⟨K5.out.1.trans (a6'.mono K5.out.1.size), f6, K5.out.2.2.1.below a6', K5.out.2.2.2, K5.out.2.1.lt, ⟨_, _, _, _, K5.out.2.1.keep a6'⟩⟩ (Below.refl _ _).drew
              have KS : Hid (RQS w xt ht yt a8 dn c8 B8 dL w5.heap.size W6) := ⟨K5.out.1.trans (a6'.mono K5.out.1.size), f6, K5.out.2.2.1.below a6', K5.out.2.2.2, K5.out.2.1.lt, ⟨_, _, _, _, K5.out.2.1.keep a6'⟩⟩
              have HQ4 := f6
              rw [hW6] at HQ4
              obtain ⟨q0, q1, q2, q3, _, _⟩ := HQ4
              have HKS : Hid (∀ X, RQS w xt ht yt a8 dn c8 B8 dL w5.heap.size X → X.cell? ⟨w5.heap.size, 0, none⟩ = some (.string xt) ∧ X.cell? ⟨w5.heap.size, 1, none⟩ = some (.string ht) ∧ X.cell? ⟨w5.heap.size, 2, none⟩ = some (.string yt) ∧ X.cell? ⟨w5.heap.size, 3, none⟩ = some (.slice a8 dn c8)) := fun X h => ⟨h.four.c0, h.four.c1, h.four.c2, h.four.c3⟩
              have HPUT : Hid (∀ X, RQS w xt ht yt a8 dn c8 B8 dL w5.heap.size X → RQS w xt ht yt a8 dn c8 B8 dL w5.heap.size (put4 X w.heap.size (.string xt) (.string ht) (.string yt) (.slice a8 dn c8)) ∧ Four (put4 X w.heap.size (.string xt) (.string ht) (.string yt) (.slice a8 dn c8)) w.heap.size (.string xt) (.string ht) (.string yt) (.slice a8 dn c8)) := fun X h => h.put _ _ _ _
              have HRE : Hid (∀ X, RQS w xt ht yt a8 dn c8 B8 dL w5.heap.size X → Calls Tryz.prog 72 #[.agg #[.string xt, .string ht, .string yt, .slice a8 dn c8]] X fun e w' => e = .returned (errV E cq) ∧ Below X.heap.size X w') := fun X h => HRF.out X h.b (own_in h.own).2
              have HRC : Hid (∀ X, RQS w xt ht yt a8 dn c8 B8 dL w5.heap.size X → ∃ u0 u1 u2 u3, Four X w.heap.size u0 u1 u2 u3) := fun X h => h.res
              obtain ⟨ev, hev⟩ : ∃ ev, errV E cq = ev := ⟨_, rfl⟩
              have HEV : Hid (errV E cq = ev) := hev
              rw [hev] at HRE
              clear K5 y0 y1 p0 p1 hW6 a6' f6 HRF hev
              rw [← HW6.out] at q0 q1 q2 q3 ⊢
              clear HW6
              generalize w5.heap.size = B12 at *
              try clear w5
              have B0 : Hid (RQS w xt ht yt a8 dn c8 B8 dL B12 W6.drew) := KS.out.keep (Below.refl _ _).drew
              obtain ⟨u0, u1, u2, u3, hu⟩ := HRC.out W6 KS.out
              obtain ⟨s0, s1, s2, s3, sf, _⟩ := hu
              have sf0 := sf 0
              have sf1 := sf 1
              have sf2 := sf 2
              have sf3 := sf 3
              clear sf KS
              go_wp2_with fail
              go_region_held3 (fun X => X.cell? ⟨B12, 0, none⟩ = some (.string xt) ∧ X.cell? ⟨B12, 1, none⟩ = some (.string ht) ∧ X.cell? ⟨B12, 2, none⟩ = some (.string yt) ∧ X.cell? ⟨B12, 3, none⟩ = some (.slice a8 dn c8))
                (first | exact HKS.out _ (HPUT.out _ BA.out).1 | exact HKS.out _ (HPUT.out _ B0.out).1 | exact HKS.out _ BA.out | exact HKS.out _ B0.out)
                (first
                | (go_at_call 72; (first | refine (HRE.out _ B0.out).mono ?_ | refine (HRE.out _ (HPUT.out _ B0.out).1).mono ?_); rintro e wa ⟨rfl, hba⟩; (first | have BA : Hid (RQS w xt ht yt a8 dn c8 B8 dL B12 wa) := B0.out.keep hba | have BA : Hid (RQS w xt ht yt a8 dn c8 B8 dL B12 wa) := (HPUT.out _ B0.out).1.keep hba); (try have FA : Hid (Four wa w.heap.size (.string xt) (.string ht) (.string yt) (.slice a8 dn c8)) := (HPUT.out _ B0.out).2.keep hba); clear hba; obtain ⟨k0, k1, k2, k3, hk⟩ := HRC.out wa BA.out; obtain ⟨n0, n1, n2, n3, nf, _⟩ := hk; have nf0 := nf 0; have nf1 := nf 1; have nf2 := nf 2; have nf3 := nf 3; clear nf))
              go_wp2_with fail
              have HP := HPUT.out _ BA.out
              have T2 := HP.2
              unfold put4 at T2
              refine bodyPost_ret (v := .tuple #[.agg #[.string xt, .string ht, .string yt, .slice a8 dn c8], ev]) (by simp [results, Tryz.results75, go_sem, T2.c0, T2.c1, T2.c2, T2.c3]) rfl ⟨?_, HP.1.b⟩
              by_cases hq : cq = 0
              · rw [HG.out.1 hq, HRQ.out]
                exact ⟨xt, ht, yt, a8, dn, c8, by rw [← HEV.out, hq], fun _ => ⟨rfl, rfl, rfl, HP.1.own.lower (Nat.le_of_lt HP.1.lt8)⟩⟩
              · rw [HG.out.2 hq]
                exact QIn.bad hq HEV.out.symm
          · have dz : ((hmk z).toList == [72, 84, 84, 80, 47, 49, 46, 49]) = false := lit_not (by rw [hmk_list]; exact hz)
            have HE : Hid (R = (5, rq0)) := HBAD.out (by rw [hwk, decide_eq_false hz]; rfl)
            clear HBAD HGOOD hwk hz HDL hl3 HJN HX01
            generalize hmk z = zt at *
            obtain ⟨r0, r1, r2, r3, rf, _⟩ := K4.out.2.1
            have rf0 := rf 0
            have rf1 := rf 1
            have rf2 := rf 2
            have rf3 := rf 3
            clear rf
            have gU := (HE0.out w4 K4.out.1).gU
            go_wp2_with fail
            go_region
            have T2 := (four_put (v0 := .string ⟨#[]⟩) (v1 := .string ⟨#[]⟩) (v2 := .string ⟨#[]⟩) (v3 := .slice none 0 0) K4.out.2.1).keep (Below.refl _ _).drew
            have BZ := (Below.put4 (v0 := .string ⟨#[]⟩) (v1 := .string ⟨#[]⟩) (v2 := .string ⟨#[]⟩) (v3 := .slice none 0 0) K4.out.1 (Nat.le_refl _)).drew
            unfold put4 at T2
            go_wp2_with fail
            exact bodyPost_ret (v := .tuple #[.agg #[.string ⟨#[]⟩, .string ⟨#[]⟩, .string ⟨#[]⟩, .slice none 0 0], .iface 261 (.pointer (some E.u))]) (by simp [results, Tryz.results75, go_sem, T2.c0, T2.c1, T2.c2, T2.c3]) rfl ⟨by rw [HE.out]; exact QIn.bad (by decide) rfl, BZ⟩
        · have d3 : ((ws.length : Int) == 3) = false := int_ne_beq (by omega)
          have d3n : ((ws.length : Int) != 3) = true := by rw [bne, d3]; rfl
          have HE : Hid (R = (5, rq0)) := HBAD.out (by rw [wordsOk_len hl3]; rfl)
          clear HBAD HGOOD hl3 HDL HJN
          obtain ⟨r0, r1, r2, r3, rf, _⟩ := K4.out.2.1
          have rf0 := rf 0
          have rf1 := rf 1
          have rf2 := rf 2
          have rf3 := rf 3
          clear rf
          have gU := (HE0.out w4 K4.out.1).gU
          go_wp2_with fail
          go_region
          have T2 := (four_put (v0 := .string ⟨#[]⟩) (v1 := .string ⟨#[]⟩) (v2 := .string ⟨#[]⟩) (v3 := .slice none 0 0) K4.out.2.1).keep (Below.refl _ _).drew
          have BZ := (Below.put4 (v0 := .string ⟨#[]⟩) (v1 := .string ⟨#[]⟩) (v2 := .string ⟨#[]⟩) (v3 := .slice none 0 0) K4.out.1 (Nat.le_refl _)).drew
          unfold put4 at T2
          go_wp2_with fail
          exact bodyPost_ret (v := .tuple #[.agg #[.string ⟨#[]⟩, .string ⟨#[]⟩, .string ⟨#[]⟩, .slice none 0 0], .iface 261 (.pointer (some E.u))]) (by simp [results, Tryz.results75, go_sem, T2.c0, T2.c1, T2.c2, T2.c3]) rfl ⟨by rw [HE.out]; exact QIn.bad (by decide) rfl, BZ⟩
      · have HE : Hid (R = (hc, rq0)) := by
          show _ = _
          rw [HRR.out, readQ_heads H8.out HF.out (by rw [HHC.out.1]; exact h0), HHC.out.1]
        obtain ⟨ep, hep⟩ := errV_iface E hc h0
        have HEP : Hid (.iface 261 (.pointer (some ep)) = errV E hc) := hep.symm
        rw [hep] at C3
        clear HRR HF H8 HHC hep hcodes
        go_wp2_with fail
        rw [← HV2.out]
        refine C3.mono ?_
        rintro e w3 ⟨rfl, hw⟩
        obtain rfl := hw.symm
        clear hw C3
        obtain ⟨r0, r1, r2, r3, rf, _⟩ := K2.out.2.1
        have rf0 := rf 0
        have rf1 := rf 1
        have rf2 := rf 2
        have rf3 := rf 3
        clear rf
        go_wp2_with fail
        have T2 := four_put (v0 := .string ⟨#[]⟩) (v1 := .string ⟨#[]⟩) (v2 := .string ⟨#[]⟩) (v3 := .slice none 0 0) K2.out.2.1
        have BZ := Below.put4 (v0 := .string ⟨#[]⟩) (v1 := .string ⟨#[]⟩) (v2 := .string ⟨#[]⟩) (v3 := .slice none 0 0) K2.out.1 (Nat.le_refl _)
        unfold put4 at T2
        exact bodyPost_ret (v := .tuple #[.agg #[.string ⟨#[]⟩, .string ⟨#[]⟩, .string ⟨#[]⟩, .slice none 0 0], .iface 261 (.pointer (some ep))]) (by simp [results, Tryz.results75, go_sem, T2.c0, T2.c1, T2.c2, T2.c3]) rfl ⟨by rw [HE.out]; exact QIn.bad h0 HEP.out, BZ⟩
  · have HE : Hid (R = (5, rq0)) := by show _ = _; rw [HRR.out]; exact readQ_none h8 (firstO_no hc)
    have C := mcut_no d W (HS.out W K0.out.1).2 (by omega) hc
    clear HRR HS h8 hc
    generalize hmk d = t at *
    go_enter Tryz.func75, Tryz.ntmps75
    go_wp2_with fail
    rw [← HW.out]
    refine C.mono ?_
    rintro e w1 ⟨rfl, hb1⟩
    have K1 : Hid (Below w.heap.size w w1 ∧ Four w1 w.heap.size (.string ⟨#[]⟩) (.string ⟨#[]⟩) (.string ⟨#[]⟩) (.slice none 0 0)) := ⟨K0.out.1.trans (hb1.mono K0.out.1.size), K0.out.2.keep hb1⟩
    clear C hb1 K0 HW
    obtain ⟨r0, r1, r2, r3, rf, _⟩ := K1.out.2
    have rf0 := rf 0
    have rf1 := rf 1
    have rf2 := rf 2
    have rf3 := rf 3
    clear rf
    have gU := (HE0.out w1 K1.out.1).gU
    go_wp2_with fail
    go_region
    have T2 := (four_put (v0 := .string ⟨#[]⟩) (v1 := .string ⟨#[]⟩) (v2 := .string ⟨#[]⟩) (v3 := .slice none 0 0) K1.out.2).keep (Below.refl _ _).drew
    have BZ := (Below.put4 (v0 := .string ⟨#[]⟩) (v1 := .string ⟨#[]⟩) (v2 := .string ⟨#[]⟩) (v3 := .slice none 0 0) K1.out.1 (Nat.le_refl _)).drew
    unfold put4 at T2
    go_wp2_with fail
    exact bodyPost_ret (v := .tuple #[.agg #[.string ⟨#[]⟩, .string ⟨#[]⟩, .string ⟨#[]⟩, .slice none 0 0], .iface 261 (.pointer (some E.u))]) (by simp [results, Tryz.results75, go_sem, T2.c0, T2.c1, T2.c2, T2.c3]) rfl ⟨by rw [HE.out]; exact QIn.bad (by decide) rfl, BZ⟩
end Go.Proofs.YtojcjpdgjohldaaGreatDoor
/-
  What ReadRequest answers.
-/
namespace Go.Proofs.YtojcjpdgjohldaaGreatDoor
open Go.ChangeShapes Go.WideShapes Go.ChangeAt Go.RowKit
theorem readQ_codes (d : List UInt8) : (readQ d).1 = 0 ∨ (readQ d).1 = 2 ∨ (readQ d).1 = 3 ∨ (readQ d).1 = 5 ∨ (readQ d).1 = 6 := by
  unfold readQ
  split
  · simp
  · split
    · simp
    · rename_i x _
      have h1 := readHC_codes (hmk x.2)
      split
      · split
        · have h2 := reqC_codes (reqOf (cutG 32 [] x.1) (readHL (hmk x.2))).m (reqOf (cutG 32 [] x.1) (readHL (hmk x.2))).h (reqOf (cutG 32 [] x.1) (readHL (hmk x.2))).p (reqOf (cutG 32 [] x.1) (readHL (hmk x.2))).l
          split
          · simp
          · show rqC _ = 0 ∨ rqC _ = 2 ∨ rqC _ = 3 ∨ rqC _ = 5 ∨ rqC _ = 6
            unfold rqC
            omega
        · simp
      · show readHC _ = 0 ∨ readHC _ = 2 ∨ readHC _ = 3 ∨ readHC _ = 5 ∨ readHC _ = 6
        omega
theorem readQ_zero {d : List UInt8} (h : ¬ (readQ d).1 = 0) : (readQ d).2 = rq0 := by
  unfold readQ at *
  split
  · rfl
  · rename_i h8
    rw [if_neg h8] at h
    split
    · rfl
    · rename_i x hx
      rw [hx] at h
      simp only at h
      split
      · rename_i h1
        rw [if_pos h1] at h
        split
        · rename_i h2
          rw [if_pos h2] at h
          split
          · rename_i h3
            rw [if_pos h3] at h
            exact absurd rfl h
          · rfl
        · rfl
      · rfl
set_option maxRecDepth 100000 in
set_option maxHeartbeats 8000000 in
theorem implReadQ_any (E : Errs) (w : World) (a : Option Addr) (cap : Nat) (d : List UInt8) (hd : d.length ≤ 1048576) (hset : SetIs w) (hE : ErrsIs w E) (hmx : MaxIs w) (hi : BIn w a d) :
    Calls Tryz.prog 21 #[.slice a d.length cap] w fun e w' => QGot (readQ d).1 (readQ d).2 w.heap.size e w' ∧ Below w.heap.size w w' := by
  obtain ⟨W, hW⟩ : ∃ W, W = w.alloc (.cells #[.int .i64 0, .string ⟨#[]⟩, .string ⟨#[]⟩, .string ⟨#[]⟩, .slice none 0 0] 38) := ⟨_, rfl⟩
  have HW : Hid (W = w.alloc (.cells #[.int .i64 0, .string ⟨#[]⟩, .string ⟨#[]⟩, .string ⟨#[]⟩, .slice none 0 0] 38)) := hW
  have bW : Below w.heap.size w W := by rw [hW]; exact (Below.refl _ _).alloc (Nat.le_refl _) _
  have f0 : Five W w.heap.size (.int .i64 0) (.string ⟨#[]⟩) (.string ⟨#[]⟩) (.string ⟨#[]⟩) (.slice none 0 0) := by rw [hW]; exact Five.new _ _ _ _ _ _ _
  have hcv : (convert 22 9 (.slice a d.length cap)).run Tryz.prog W = .ok (.string (hmk d)) W := bytes_text cap (hi.keep bW)
  have K0 : Hid (Below w.heap.size w W ∧ Five W w.heap.size (.int .i64 0) (.string ⟨#[]⟩) (.string ⟨#[]⟩) (.string ⟨#[]⟩) (.slice none 0 0)) := ⟨bW, f0⟩
  have HE0 : Hid (∀ X, Below w.heap.size w X → ErrsIs X E) := fun X hb => hE.below hb
  have HIN : Hid (¬ 8000 < d.length → Calls Tryz.prog 75 #[.string (hmk d)] W fun e w' => QIn E (readQ d).1 (readQ d).2 W.heap.size e w' ∧ Below W.heap.size W w') := fun h8 => implReqIn_any E W d h8 (hset.below bW) (hE.below bW) (hmx.below bW)
  have hcodes := readQ_codes d
  have HZ : Hid (¬ (readQ d).1 = 0 → (readQ d).2 = rq0) := readQ_zero
  have HLO : Hid (8000 < d.length → readQ d = (2, rq0)) := readQ_long
  obtain ⟨R, hR⟩ : ∃ R, R = readQ d := ⟨_, rfl⟩
  rw [← hR] at hcodes HZ HIN HLO ⊢
  clear hR bW f0 hi hset hE hmx
  rw [hW] at hcv
  clear hW
  by_cases h8 : 8000 < d.length
  · have HE : Hid (R = (2, rq0)) := HLO.out h8
    have g8 : (8000 : Int) < d.length := by omega
    clear hcv K0 HZ HIN HLO hcodes
    generalize d.length = n at *
    go_enter Tryz.func21, Tryz.ntmps21
    go_wp2_with fail
    exact bodyPost_ret (v := .agg #[.int .i64 2, .string ⟨#[]⟩, .string ⟨#[]⟩, .string ⟨#[]⟩, .slice none 0 0]) (by simp [results, Tryz.results21, go_sem]) rfl ⟨by rw [HE.out]; exact QGot.zero _ _ _, (Below.refl _ _).alloc (Nat.le_refl _) _⟩
  · have g8 : ¬ (8000 : Int) < d.length := by omega
    have C := HIN.out h8
    clear HIN HLO h8
    generalize hmk d = t at *
    generalize d.length = n at *
    go_enter Tryz.func21, Tryz.ntmps21
    go_wp2_with fail
    rw [← HW.out]
    refine C.mono ?_
    rintro e w1 ⟨⟨m, h, p, a1, n1, k1, rfl, hq⟩, hb1⟩
    have HQ : Hid (R.1 = 0 → R.2.m = m ∧ R.2.h = h ∧ R.2.p = p ∧ OwnH w1 W.heap.size (.slice a1 n1 k1) R.2.l) := hq
    obtain ⟨V, hV⟩ : ∃ V, V = w1.alloc (.cells #[.string m, .string h, .string p, .slice a1 n1 k1] 26) := ⟨_, rfl⟩
    have HV : Hid (V = w1.alloc (.cells #[.string m, .string h, .string p, .slice a1 n1 k1] 26)) := hV
    have aV : Below w1.heap.size w1 V := by rw [hV]; exact (Below.refl _ _).alloc (Nat.le_refl _) _
    have fV : Four V w1.heap.size (.string m) (.string h) (.string p) (.slice a1 n1 k1) := by rw [hV]; exact Four.new _ _ _ _ _ _
    have b1 := K0.out.1.trans (hb1.mono K0.out.1.size)
    have K1 : Hid (Below w.heap.size w V ∧ Five V w.heap.size (.int .i64 0) (.string ⟨#[]⟩) (.string ⟨#[]⟩) (.string ⟨#[]⟩) (.slice none 0 0) ∧ Four V w1.heap.size (.string m) (.string h) (.string p) (.slice a1 n1 k1) ∧ Below w1.heap.size w1 V ∧ w.heap.size < W.heap.size) := ⟨b1.trans (aV.mono b1.size), (K0.out.2.keep hb1).keep aV, fV, aV, K0.out.2.lt⟩
    clear C hb1 K0 HW hcv hq hV aV fV b1
    obtain ⟨r0, r1, r2, r3, r4, rf, _⟩ := K1.out.2.1
    have rf0 := rf 0
    have rf1 := rf 1
    have rf2 := rf 2
    have rf3 := rf 3
    have rf4 := rf 4
    clear rf
    obtain ⟨c, hc⟩ : ∃ c, R.1 = c := ⟨_, rfl⟩
    have HC : Hid (R.1 = c) := hc
    rw [hc] at HZ HQ hcodes ⊢
    clear hc
    by_cases h0 : c = 0
    · subst h0
      rw [errV0]
      obtain ⟨e1, e2, e3, e4⟩ := HQ.out rfl
      have HRE : Hid (R.1 = 0 ∧ R.2.m = m ∧ R.2.h = h ∧ R.2.p = p ∧ OwnH V W.heap.size (.slice a1 n1 k1) R.2.l) := ⟨HC.out, e1, e2, e3, e4.below K1.out.2.2.2.1⟩
      obtain ⟨q0, q1, q2, q3, _, _⟩ := K1.out.2.2.1
      rw [HV.out] at r0 r1 r2 r3 r4 rf0 rf1 rf2 rf3 rf4 q0 q1 q2 q3
      clear HZ HQ HC hcodes e1 e2 e3 e4
      go_wp2_with fail
      rw [← HV.out]
      have T2 := five_put (v0 := .int .i64 0) (v1 := .string m) (v2 := .string h) (v3 := .string p) (v4 := .slice a1 n1 k1) K1.out.2.1
      have HO := ownH_put5 (v0 := .int .i64 0) (v1 := .string m) (v2 := .string h) (v3 := .string p) (v4 := .slice a1 n1 k1) HRE.out.2.2.2.2 K1.out.2.2.2.2
      unfold put5 at T2
      exact bodyPost_ret (v := .agg #[.int .i64 0, .string m, .string h, .string p, .slice a1 n1 k1]) (by simp [results, Tryz.results21, go_sem, T2.c0, T2.c1, T2.c2, T2.c3, T2.c4]) rfl ⟨⟨_, by rw [HRE.out.1, HRE.out.2.1, HRE.out.2.2.1, HRE.out.2.2.2.1], HO.lower (Nat.le_of_lt K1.out.2.2.2.2)⟩, Below.put5 K1.out.1 (Nat.le_refl _)⟩
    · have C2 := codeOf_any E c V (HE0.out V K1.out.1) hcodes
      have HRE : Hid (R = (c, rq0)) := by
        show _ = _
        rw [← HC.out, ← HZ.out h0]
      obtain ⟨ep, hep⟩ := errV_iface E c h0
      rw [hep] at C2 ⊢
      rw [HV.out] at r0 r1 r2 r3 r4 rf0 rf1 rf2 rf3 rf4
      clear HZ HQ HC hcodes hep
      go_wp2_with fail
      rw [← HV.out]
      refine C2.mono ?_
      rintro e w2 ⟨rfl, hw⟩
      obtain rfl := hw.symm
      rw [← HV.out] at r0 r1 r2 r3 r4 rf0 rf1 rf2 rf3 rf4
      clear hw C2 HV
      go_wp2_with fail
      have T2 := five_put (v0 := .int .i64 c) (v1 := .string ⟨#[]⟩) (v2 := .string ⟨#[]⟩) (v3 := .string ⟨#[]⟩) (v4 := .slice none 0 0) K1.out.2.1
      unfold put5 at T2
      exact bodyPost_ret (v := .agg #[.int .i64 c, .string ⟨#[]⟩, .string ⟨#[]⟩, .string ⟨#[]⟩, .slice none 0 0]) (by simp [results, Tryz.results21, go_sem, T2.c0, T2.c1, T2.c2, T2.c3, T2.c4]) rfl ⟨by rw [HRE.out]; exact QGot.zero _ _ _, Below.put5 K1.out.1 (Nat.le_refl _)⟩
end Go.Proofs.YtojcjpdgjohldaaGreatDoor
/-
  markText: a text of its own for each number.
-/
namespace Go.Proofs.YtojcjpdgjohldaaGreatDoor
open Go.ChangeShapes Go.WideShapes Go.ChangeAt Go.RowKit
def mkD (k : Nat) (o : ByteArray) : ByteArray := if _h : k = 0 then o else mkD (k / 10) ((⟨#[UInt8.ofNat (48 + k % 10)]⟩ : ByteArray) ++ o)
termination_by k
decreasing_by omega
theorem mkD_zero (o : ByteArray) : mkD 0 o = o := by rw [mkD]; simp
theorem mkD_more {k : Nat} (h : k ≠ 0) (o : ByteArray) : mkD k o = mkD (k / 10) ((⟨#[UInt8.ofNat (48 + k % 10)]⟩ : ByteArray) ++ o) := by rw [mkD, dif_neg h]
def mkT (k : Nat) : ByteArray := (⟨#[109]⟩ : ByteArray) ++ mkD k ⟨#[]⟩
theorem one_byteM (c : Int) (x : UInt8) (hx : (x.toNat : Int) = c) (W : World) (B cap : Nat) (hc : W.cell? ⟨B, 0, none⟩ = some (.int .u8 c)) :
    (convert 22 9 (.slice (some ⟨B, 0, none⟩) 1 cap)).run Tryz.prog W = .ok (.string ⟨#[x]⟩) W := by
  have := run_convert_bytes_back (P := Tryz.prog) W 22 9 5 ⟨B, 0, none⟩ cap [x] Tryz.underlying22 Tryz.underlying5 Tryz.underlying9 (fun j hj => by
    obtain rfl : j = 0 := by simp at hj; omega
    simp [Addr.add, hc, hx])
  simpa using this
set_option maxHeartbeats 2000000 in
theorem markText_any (k : Nat) (h0 : 1 ≤ k) (h1 : k ≤ 10000000) (w : World) :
    Calls Tryz.prog 149 #[.int .i64 (k : Int)] w fun e w' => e = .returned (.string (mkT k)) ∧ Below w.heap.size w w' := by
  have HT : Hid (mkT k = (⟨#[109]⟩ : ByteArray) ++ mkD k ⟨#[]⟩) := rfl
  have g : ¬ (k : Int) ≤ 0 := by omega
  go_enter Tryz.func149, Tryz.ntmps149
  go_wp2
  go_loopw [0, 3] (fun x v wr => ∃ (j : Nat) (o : ByteArray), j ≤ k ∧ x = .int .i64 (j : Int) ∧ v = .string o ∧ mkD k ⟨#[]⟩ = mkD j o ∧ o.size + j ≤ k ∧ Below w.heap.size w wr) (fun x _ _ => (intOf x).toNat)
  case atStart => exact ⟨k, ⟨#[]⟩, Nat.le_refl _, rfl, rfl, rfl, by simp [ByteArray.size], Below.refl _ _⟩
  case round =>
    obtain ⟨j, o, hj, rfl, rfl, he, hs, hb⟩ := hrel
    have HE : Hid (mkD k ⟨#[]⟩ = mkD j o) := he
    have KB : Hid (Below w.heap.size w wr) := hb
    clear he hb
    by_cases hj0 : j = 0
    · subst hj0
      have HX : Hid (mkD k ⟨#[]⟩ = o) := by show _ = _; rw [HE.out, mkD_zero]
      have zk : (⟨#[109]⟩ : ByteArray).size = 1 := rfl
      have hadd := fun w => run_string_add_sum (P := Tryz.prog) (w := w) (⟨#[109]⟩ : ByteArray) o (by omega)
      clear zk
      go_wp2_with fail
      go_ret
      exact ⟨ret_str (by rw [HT.out, HX.out]), KB.out⟩
    · have HX : Hid (mkD k ⟨#[]⟩ = mkD (j / 10) ((⟨#[UInt8.ofNat (48 + j % 10)]⟩ : ByteArray) ++ o)) := by show _ = _; rw [HE.out, mkD_more hj0]
      have hcv := one_byteM (48 + (j : Int) % 10) (UInt8.ofNat (48 + j % 10)) (by rw [UInt8.toNat_ofNat_of_lt' (by show 48 + j % 10 < 256; omega)]; omega)
      have zr : (⟨#[UInt8.ofNat (48 + j % 10)]⟩ : ByteArray).size = 1 := rfl
      generalize (⟨#[UInt8.ofNat (48 + j % 10)]⟩ : ByteArray) = r at *
      have zq : (r ++ o).size = 1 + o.size := by rw [ByteArray.size_append, zr]
      have hadd := fun w => run_string_add_sum (P := Tryz.prog) (w := w) r o (by omega)
      generalize r ++ o = q at *
      have g1 : (0 : Int) < (j : Int) := by omega
      have e2 : IntKind.u8.wrap (48 + (j : Int) % 10) = 48 + (j : Int) % 10 := by rw [IntKind.wrap_u8]; omega
      have hj9 : (j : Int) ≤ 10000000 := by omega
      go_wp2_with fail
      go_roundw
      case rel => exact ⟨j / 10, q, by omega, by go_num, rfl, HX.out, by omega, KB.out.alloc KB.out.size _⟩
      case measure => simp [intOf]; omega
end Go.Proofs.YtojcjpdgjohldaaGreatDoor
/-
  All that was there, but for one block, is as it was.
-/
namespace Go.Proofs.YtojcjpdgjohldaaGreatDoor
open Go.ChangeShapes Go.WideShapes Go.ChangeAt Go.RowKit
/-- All that was there, but for block B, is as it was. -/
structure Apart (B : Nat) (w w' : World) : Prop where
  size : w.heap.size ≤ w'.heap.size
  cell : ∀ b o, b < w.heap.size → b ≠ B → w'.cell? ⟨b, o, none⟩ = w.cell? ⟨b, o, none⟩
  frozen : ∀ b o, b < w.heap.size → b ≠ B → w'.frozen? ⟨b, o, none⟩ = w.frozen? ⟨b, o, none⟩
theorem Apart.refl (B : Nat) (w : World) : Apart B w w := ⟨Nat.le_refl _, fun _ _ _ _ => rfl, fun _ _ _ _ => rfl⟩
theorem Apart.trans {B : Nat} {w w1 w2 : World} (h : Apart B w w1) (k : Apart B w1 w2) : Apart B w w2 :=
  ⟨Nat.le_trans h.size k.size, fun b o hb hn => by rw [k.cell b o (Nat.lt_of_lt_of_le hb h.size) hn, h.cell b o hb hn], fun b o hb hn => by rw [k.frozen b o (Nat.lt_of_lt_of_le hb h.size) hn, h.frozen b o hb hn]⟩
theorem Apart.below {B : Nat} {w w' : World} (h : Below w.heap.size w w') : Apart B w w' :=
  ⟨h.size, fun b o hb _ => h.cell (p := ⟨b, o, none⟩) hb, fun b o hb _ => h.frozen (p := ⟨b, o, none⟩) hb⟩
theorem Apart.alloc (B : Nat) (w : World) (o : Obj) : Apart B w (w.alloc o) := .below ((Below.refl _ _).alloc (Nat.le_refl _) _)
theorem Apart.set (B o : Nat) (w : World) (v : Value) : Apart B w (w.setCell ⟨B, o, none⟩ v) := by
  refine ⟨by simp, fun b o' _ hn => ?_, fun b o' _ hn => ?_⟩
  · rw [World.cell?_setCell_other _ _ _ _ (by intro h; have := congrArg Addr.block h; simp at this; omega)]
  · rw [World.frozen?_setCell]
end Go.Proofs.YtojcjpdgjohldaaGreatDoor
/-
  markHeaderS and heldHeaderS: marks laid into head lines, and found again.
-/
namespace Go.Proofs.YtojcjpdgjohldaaGreatDoor
open Go.ChangeShapes Go.WideShapes Go.ChangeAt Go.RowKit Go.Sort
def mkHR (k : Nat) (j : Nat) : Hdr := ⟨mkT (k + 2 * j), mkT (k + 2 * j + 1)⟩
def mkHL (k n : Nat) : List Hdr := (List.range n).map (mkHR k)
theorem mkHL_len (k n : Nat) : (mkHL k n).length = n := by simp [mkHL]
theorem mkHL_get {k n i : Nat} (h : i < n) : (mkHL k n)[i]? = some (mkHR k i) := by simp [mkHL, h]
theorem hcell_set_same {w : World} {g o : Nat} {u v : Value} (h : w.cell? ⟨g, o, none⟩ = some u) : (w.setCell ⟨g, o, none⟩ v).cell? ⟨g, o, none⟩ = some v := World.cell?_setCell_same _ _ _ h
theorem hcell_set_off {w : World} {g o o' : Nat} {v : Value} (h : o ≠ o') : (w.setCell ⟨g, o', none⟩ v).cell? ⟨g, o, none⟩ = w.cell? ⟨g, o, none⟩ :=
  World.cell?_setCell_other _ _ _ _ (by intro e; have := congrArg Addr.off e; simp at this; omega)
/-- One field of one line written. -/
theorem hput_name {w : World} {g off i : Nat} {L : List Hdr} {r : Hdr} (h : HeadsAt w g off L) (hr : L[i]? = some r) (n : ByteArray) :
    HeadsAt (w.setCell ⟨g, off + i * 2, none⟩ (.string n)) g off (L.set i { r with name := n }) := by
  intro j q hq
  by_cases e : j = i
  · subst e
    have hl := (List.getElem?_eq_some_iff.1 hr).1
    rw [List.getElem?_set_self hl] at hq
    obtain rfl := Option.some.inj hq
    obtain ⟨a, c⟩ := h j r hr
    exact ⟨hcell_set_same a, by rw [hcell_set_off (by omega)]; exact c⟩
  · rw [List.getElem?_set_ne (fun k => e k.symm)] at hq
    obtain ⟨a, c⟩ := h j q hq
    exact ⟨by rw [hcell_set_off (by omega)]; exact a, by rw [hcell_set_off (by omega)]; exact c⟩
theorem hput_value {w : World} {g off i : Nat} {L : List Hdr} {r : Hdr} (h : HeadsAt w g off L) (hr : L[i]? = some r) (n : ByteArray) :
    HeadsAt (w.setCell ⟨g, off + i * 2 + 1, none⟩ (.string n)) g off (L.set i { r with value := n }) := by
  intro j q hq
  by_cases e : j = i
  · subst e
    have hl := (List.getElem?_eq_some_iff.1 hr).1
    rw [List.getElem?_set_self hl] at hq
    obtain rfl := Option.some.inj hq
    obtain ⟨a, c⟩ := h j r hr
    exact ⟨by rw [hcell_set_off (by omega)]; exact a, hcell_set_same c⟩
  · rw [List.getElem?_set_ne (fun k => e k.symm)] at hq
    obtain ⟨a, c⟩ := h j q hq
    exact ⟨by rw [hcell_set_off (by omega)]; exact a, by rw [hcell_set_off (by omega)]; exact c⟩
/-- The state of the marking loop: j lines are marked. -/
structure HMarked (w : World) (g off : Nat) (k n j : Nat) (L : List Hdr) (W : World) : Prop where
  len : L.length = n
  done : ∀ i, i < j → L[i]? = some (mkHR k i)
  items : HeadsAt W g off L
  thaw : ∀ o, W.frozen? ⟨g, o, none⟩ = false
  apart : Apart g w W
  low : Below g w W
  lt : g < W.heap.size
theorem HMarked.below {w : World} {g off k n j : Nat} {L : List Hdr} {W W' : World} (h : HMarked w g off k n j L W) (hb : Below W.heap.size W W') : HMarked w g off k n j L W' :=
  ⟨h.len, h.done, h.items.keep hb, fun o => by rw [hb.frozen (p := ⟨g, o, none⟩) h.lt, h.thaw], h.apart.trans (.below hb), h.low.trans (hb.mono (Nat.le_of_lt h.lt)), Nat.lt_of_lt_of_le h.lt hb.size⟩
theorem HMarked.set {w : World} {g off k n j o : Nat} {L L' : List Hdr} {W : World} {v : Value} (h : HMarked w g off k n j L W) (hl : L'.length = L.length) (hd : ∀ i, i < j → L'[i]? = L[i]?) (hi : HeadsAt (W.setCell ⟨g, o, none⟩ v) g off L') : HMarked w g off k n j L' (W.setCell ⟨g, o, none⟩ v) :=
  ⟨hl.trans h.len, fun i hi => (hd i hi).trans (h.done i hi), hi, fun o => by rw [World.frozen?_setCell, h.thaw], h.apart.trans (.set _ _ _ _), h.low.setCell (Nat.le_refl _) _, by simpa using h.lt⟩
end Go.Proofs.YtojcjpdgjohldaaGreatDoor
/-
  markHeaderS and heldHeaderS.
-/
namespace Go.Proofs.YtojcjpdgjohldaaGreatDoor
open Go.ChangeShapes Go.WideShapes Go.ChangeAt Go.RowKit Go.Sort
set_option maxRecDepth 100000 in
set_option maxHeartbeats 4000000 in
theorem markHeaderS_any (w : World) (g off cap n k : Nat) (l : List Hdr) (hn : l.length = n) (hn2 : n ≤ 1048576) (hk0 : 1 ≤ k) (hk1 : k ≤ 1000) (hi : HeadsAt w g off l) (hf : ∀ o, w.frozen? ⟨g, o, none⟩ = false) (hg : g < w.heap.size) :
    Calls Tryz.prog 102 #[.slice (some ⟨g, off, none⟩) n cap, .int .i64 (k : Int)] w fun e w' => e = .returned (.int .i64 ((k + 2 * n : Nat) : Int)) ∧ HeadsAt w' g off (mkHL k n) ∧ Apart g w w' ∧ Below g w w' ∧ ∀ o, w'.frozen? ⟨g, o, none⟩ = false := by
  have HST : Hid (HMarked w g off k n 0 l w) := ⟨hn, fun i h => by omega, hi, hf, .refl _ _, Below.refl _ _, hg⟩
  clear hi hf hg hn
  go_enter Tryz.func102, Tryz.ntmps102
  go_wp2_with fail
  go_loopw [1, 5] (fun x i wr => ∃ (j : Nat) (L : List Hdr), j ≤ n ∧ i = .int .i64 (j : Int) ∧ x = .int .i64 ((k + 2 * j : Nat) : Int) ∧ HMarked w g off k n j L wr) (fun _ i _ => n - (intOf i).toNat)
  case atStart => exact ⟨0, l, Nat.zero_le _, rfl, rfl, HST.out⟩
  case round =>
    obtain ⟨j, L, hj, rfl, rfl, hm⟩ := hrel
    have HM : Hid (HMarked w g off k n j L wr) := hm
    clear hm HST
    by_cases hlt : j < n
    · obtain ⟨r, hr⟩ : ∃ r, L[j]? = some r := ⟨L[j]'(by have := HM.out.len; omega), List.getElem?_eq_getElem _⟩
      have HR : Hid (L[j]? = some r) := hr
      clear hr
      have g0 : (0 : Int) ≤ j := by omega
      have g1 : (j : Int) < n := by omega
      have HT1 : Hid (∀ w, Calls Tryz.prog 149 #[.int .i64 ((k + 2 * j : Nat) : Int)] w fun e w' => e = .returned (.string (mkT (k + 2 * j))) ∧ Below w.heap.size w w') := markText_any (k + 2 * j) (by omega) (by omega)
      go_wp2_with fail
      refine (HT1.out _).mono ?_
      rintro e w1 ⟨rfl, hb1⟩
      have HM1 : Hid (HMarked w g off k n j L w1) := HM.out.below hb1
      clear hb1 HM
      obtain ⟨p1, p3⟩ := HM1.out.items j r HR.out
      have f1 := HM1.out.thaw (off + j * 2)
      have HT2 : Hid (∀ w, Calls Tryz.prog 149 #[.int .i64 ((k : Int) + 2 * j + 1)] w fun e w' => e = .returned (.string (mkT (k + 2 * j + 1))) ∧ Below w.heap.size w w') := by
        have := markText_any (k + 2 * j + 1) (by omega) (by omega)
        rw [show ((k + 2 * j + 1 : Nat) : Int) = (k : Int) + 2 * j + 1 by omega] at this
        exact this
      have hl : Hid (j < L.length) := (List.getElem?_eq_some_iff.1 HR.out).1
      have HM2 := HM1.out.set (L' := L.set j { r with name := mkT (k + 2 * j) }) (by simp) (fun i hi => by rw [List.getElem?_set_ne (by omega)]) (hput_name HM1.out.items HR.out (mkT (k + 2 * j)))
      have HM4 : Hid _ := HM2
      clear HM2 HM1
      go_wp2_with fail
      refine (HT2.out _).mono ?_
      rintro e w2 ⟨rfl, hb2⟩
      have HM5 : Hid (HMarked w g off k n j (L.set j { r with name := mkT (k + 2 * j) }) w2) := HM4.out.below hb2
      clear hb2 HM4 p1 p3 f1
      have hr5 : (L.set j { r with name := mkT (k + 2 * j) })[j]? = some { r with name := mkT (k + 2 * j) } := List.getElem?_set_self hl.out
      obtain ⟨p1, p3⟩ := HM5.out.items j _ hr5
      have f3 := HM5.out.thaw (off + j * 2 + 1)
      have HM6 := HM5.out.set (L' := (L.set j { r with name := mkT (k + 2 * j) }).set j (mkHR k j)) (by simp) (fun i hi => by rw [List.getElem?_set_ne (by omega)]) (by
        have := hput_value HM5.out.items hr5 (mkT (k + 2 * j + 1))
        exact this)
      have HM7 : Hid _ := HM6
      clear HM6 hr5 HM5
      go_wp2_with fail
      go_roundw
      case rel => exact ⟨j + 1, _, by omega, by go_num, by congr 1, HM7.out.len, fun i hi => by
        by_cases e : i = j
        · subst e; exact List.getElem?_set_self (by simpa using hl.out)
        · exact HM7.out.done i (by omega), HM7.out.items, HM7.out.thaw, HM7.out.apart, HM7.out.low, HM7.out.lt⟩
      case measure => simp [intOf]; omega
    · obtain rfl : j = n := by omega
      have HX : Hid (HeadsAt wr g off (mkHL k j)) := by
        have e : L = mkHL k j := by
          apply List.ext_getElem?
          intro i
          by_cases hi : i < j
          · rw [HM.out.done i hi, mkHL_get hi]
          · rw [List.getElem?_eq_none (by have := HM.out.len; omega), List.getElem?_eq_none (by rw [mkHL_len]; omega)]
        show HeadsAt _ _ _ _
        rw [← e]
        exact HM.out.items
      go_wp2_with fail
      go_ret
      exact ⟨rfl, HX.out, HM.out.apart, HM.out.low, HM.out.thaw⟩
set_option maxRecDepth 100000 in
set_option maxHeartbeats 4000000 in
theorem heldHeaderS_any (w : World) (g off cap n k : Nat) (hn2 : n ≤ 1048576) (hk0 : 1 ≤ k) (hk1 : k ≤ 1000) (hi : HeadsAt w g off (mkHL k n)) :
    Calls Tryz.prog 150 #[.slice (some ⟨g, off, none⟩) n cap, .int .i64 (k : Int)] w fun e w' => e = .returned (.int .i64 ((k + 2 * n : Nat) : Int)) ∧ Below w.heap.size w w' := by
  have HI : Hid (HeadsAt w g off (mkHL k n)) := hi
  clear hi
  go_enter Tryz.func150, Tryz.ntmps150
  go_wp2_with fail
  go_loopw [1, 5] (fun x i wr => ∃ (j : Nat), j ≤ n ∧ i = .int .i64 (j : Int) ∧ x = .int .i64 ((k + 2 * j : Nat) : Int) ∧ Below w.heap.size w wr) (fun _ i _ => n - (intOf i).toNat)
  case atStart => exact ⟨0, Nat.zero_le _, rfl, rfl, Below.refl _ _⟩
  case round =>
    obtain ⟨j, hj, rfl, rfl, hb⟩ := hrel
    have KB : Hid (Below w.heap.size w wr) := hb
    clear hb
    by_cases hlt : j < n
    · obtain ⟨p1, p3⟩ := (HI.out.keep KB.out) j _ (mkHL_get hlt)
      have q1 : wr.cell? ⟨g, off + j * 2, none⟩ = some (.string (mkT (k + 2 * j))) := p1
      have q3 : wr.cell? ⟨g, off + j * 2 + 1, none⟩ = some (.string (mkT (k + 2 * j + 1))) := p3
      clear p1 p3
      have g0 : (0 : Int) ≤ j := by omega
      have g1 : (j : Int) < n := by omega
      have HT1 : Hid (∀ w, Calls Tryz.prog 149 #[.int .i64 ((k : Int) + 2 * j)] w fun e w' => e = .returned (.string (mkT (k + 2 * j))) ∧ Below w.heap.size w w') := by
        have := markText_any (k + 2 * j) (by omega) (by omega)
        rw [show ((k + 2 * j : Nat) : Int) = (k : Int) + 2 * j by omega] at this
        exact this
      have HT2 : Hid (∀ w, Calls Tryz.prog 149 #[.int .i64 ((k : Int) + 2 * j + 1)] w fun e w' => e = .returned (.string (mkT (k + 2 * j + 1))) ∧ Below w.heap.size w w') := by
        have := markText_any (k + 2 * j + 1) (by omega) (by omega)
        rw [show ((k + 2 * j + 1 : Nat) : Int) = (k : Int) + 2 * j + 1 by omega] at this
        exact this
      have KC : Hid (wr.cell? ⟨g, off + j * 2 + 1, none⟩ = some (.string (mkT (k + 2 * j + 1)))) := q3
      clear q3
      generalize mkT (k + 2 * j) = t1 at *
      generalize mkT (k + 2 * j + 1) = t2 at *
      have x1 := cell_regrown q1
      clear q1
      have cE : ∀ d os, Calls Tryz.prog 149 #[.int .i64 ((k : Int) + 2 * j)] (grow (redrawn wr d) os) fun e w'' => e = .returned (.string t1) ∧ ∃ p : Regrown, w'' = grow (redrawn wr p.d) p.os := fun d os => Calls.regrown_of (HT1.out _)
      go_wp2_with fail
      refine wp_region_quiet_below (by kernel_rfl) (by kernel_rfl) ?_
      repeat (go_big_quiet_step ((go_at_call 149; exact cE _ _)))
      refine wpQuiet_nil ?_
      intro w2 hw2
      have hb2 : Below wr.heap.size wr w2 := by
        obtain ⟨⟨d, os⟩, rfl⟩ := hw2
        exact below_regrown wr d os
      have KB2 : Hid (Below w.heap.size w w2) := KB.out.trans (hb2.mono KB.out.size)
      have y3 : w2.cell? ⟨g, off + j * 2 + 1, none⟩ = some (.string t2) := by rw [hb2.cell (block_lt_of_cell KC.out), KC.out]
      have x3 := cell_regrown y3
      clear x1 cE hw2 hb2 KB KC y3
      have cF : ∀ d os, Calls Tryz.prog 149 #[.int .i64 ((k : Int) + 2 * j + 1)] (grow (redrawn w2 d) os) fun e w'' => e = .returned (.string t2) ∧ ∃ p : Regrown, w'' = grow (redrawn w2 p.d) p.os := fun d os => Calls.regrown_of (HT2.out _)
      go_wp2_with fail
      refine wp_region_quiet_below (by kernel_rfl) (by kernel_rfl) ?_
      repeat (go_big_quiet_step ((go_at_call 149; exact cF _ _)))
      refine wpQuiet_nil ?_
      intro w3 hw3
      have KB3 : Hid (Below w.heap.size w w3) := by
        obtain ⟨⟨d, os⟩, rfl⟩ := hw3
        exact KB2.out.trans ((below_regrown w2 d os).mono KB2.out.size)
      clear x3 cF hw3 KB2
      go_wp2_with fail
      go_roundw
      case rel => exact ⟨j + 1, by omega, by go_num, by congr 1, KB3.out⟩
      case measure => simp [intOf]; omega
    · obtain rfl : j = n := by omega
      go_wp2_with fail
      go_ret
      exact ⟨rfl, KB.out⟩
end Go.Proofs.YtojcjpdgjohldaaGreatDoor
/-
  Head lines as a value: compared, marked, held.
-/
namespace Go.Proofs.YtojcjpdgjohldaaGreatDoor
open Go.ChangeShapes Go.WideShapes Go.ChangeAt Go.RowKit Go.Sort
def HLV (w : World) (v : Value) (l : List Hdr) : Prop :=
  (v = .slice none 0 0 ∧ l = []) ∨ ∃ g cap, v = .slice (some ⟨g, 0, none⟩) l.length cap ∧ g < w.heap.size ∧ HeadsAt w g 0 l ∧ ∀ o, w.frozen? ⟨g, o, none⟩ = false
theorem OwnH.lv {w : World} {base : Nat} {v : Value} {l : List Hdr} (h : OwnH w base v l) : HLV w v l ∧ ∀ b, v.ownBlock = some b → base ≤ b := by
  have h0 := h
  obtain ⟨_, h1 | ⟨g, c, cur, rfl, hg, hh, _⟩⟩ := h
  · have e : l = [] := List.eq_nil_of_length_eq_zero h1.2
    exact ⟨.inl ⟨h1.1, e⟩, fun b hb => by rw [h1.1] at hb; cases hb⟩
  · refine ⟨.inr ⟨g, c, rfl, (Array.getElem?_eq_some_iff.1 hh).1, ?_, fun o => ?_⟩, fun b hb => ?_⟩
    · obtain ⟨a, c', e, hi⟩ := h0.at
      rcases hi with rfl | ⟨b, off, rfl, hat⟩
      · intro i r hr; simp at hr
      · simp only [Value.slice.injEq, Option.some.injEq] at e
        obtain ⟨e, _⟩ := e
        have e1 := congrArg Addr.block e
        have e2 := congrArg Addr.off e
        simp only at e1 e2
        rw [e1, e2]
        exact hat
    · simp [World.frozen?, hh]
    · simp only [Value.ownBlock, Option.some.injEq] at hb; omega
theorem HLV.below {w w' : World} {v : Value} {l : List Hdr} (h : HLV w v l) (hb : Below w.heap.size w w') : HLV w' v l := by
  rcases h with h | ⟨g, c, e, hg, hi, hf⟩
  · exact .inl h
  · exact .inr ⟨g, c, e, Nat.lt_of_lt_of_le hg hb.size, hi.keep hb, fun o => by rw [hb.frozen (p := ⟨g, o, none⟩) hg, hf]⟩
/-- All that was there, but for the memory of v, is as it was. -/
structure HAV (v : Value) (w w' : World) : Prop where
  size : w.heap.size ≤ w'.heap.size
  cell : ∀ b o, b < w.heap.size → v.ownBlock ≠ some b → w'.cell? ⟨b, o, none⟩ = w.cell? ⟨b, o, none⟩
  frozen : ∀ b o, b < w.heap.size → v.ownBlock ≠ some b → w'.frozen? ⟨b, o, none⟩ = w.frozen? ⟨b, o, none⟩
theorem HAV.below {v : Value} {w w' : World} (h : Below w.heap.size w w') : HAV v w w' :=
  ⟨h.size, fun b o hb _ => h.cell (p := ⟨b, o, none⟩) hb, fun b o hb _ => h.frozen (p := ⟨b, o, none⟩) hb⟩
theorem HLV.av {w w' : World} {v v1 : Value} {l : List Hdr} (h : HLV w v1 l) (k : HAV v w w') (hne : ∀ b, v1.ownBlock = some b → v.ownBlock ≠ some b) : HLV w' v1 l := by
  rcases h with h | ⟨g, c, rfl, hg, hi, hf⟩
  · exact .inl h
  · have hn := hne g rfl
    exact .inr ⟨g, c, rfl, Nat.lt_of_lt_of_le hg k.size, fun i r hr => by rw [k.cell g _ hg hn, k.cell g _ hg hn]; exact hi i r hr, fun o => by rw [k.frozen g o hg hn, hf]⟩
set_option maxHeartbeats 1000000 in
theorem eqHeaderS_nil (w : World) (a b : Option Addr) (c d : Nat) :
    Calls Tryz.prog 101 #[.slice a 0 c, .slice b 0 d] w fun e w' => e = .returned (.bool true) ∧ Below w.heap.size w w' := by
  go_enter Tryz.func101, Tryz.ntmps101
  go_wp2_with fail
  go_loop [5] (fun i => i = .int .i64 0) (fun _ => 0)
  case atStart => rfl
  case round =>
    obtain rfl := hrel
    go_wp2_with fail
    go_ret
    exact ⟨rfl, Below.refl _ _⟩
theorem eqHeaderS_lv (w : World) (v1 v2 : Value) (l : List Hdr) (hl : l.length ≤ 1048576) (h1 : HLV w v1 l) (h2 : HLV w v2 l) :
    Calls Tryz.prog 101 #[v1, v2] w fun e w' => e = .returned (.bool true) ∧ Below w.heap.size w w' := by
  rcases h1 with ⟨rfl, rfl⟩ | ⟨g, c, rfl, _, hi, _⟩
  · rcases h2 with ⟨rfl, _⟩ | ⟨g, c, rfl, _, _, _⟩
    · exact eqHeaderS_nil w _ _ _ _
    · exact eqHeaderS_nil w _ _ _ _
  · rcases h2 with ⟨rfl, rfl⟩ | ⟨g', c', rfl, _, hi', _⟩
    · exact eqHeaderS_nil w _ _ _ _
    · exact eqHeaderS_same w g 0 g' 0 c c' l hl hi hi'
set_option maxHeartbeats 1000000 in
theorem markHeaderS_nil (w : World) (a : Option Addr) (c k : Nat) :
    Calls Tryz.prog 102 #[.slice a 0 c, .int .i64 (k : Int)] w fun e w' => e = .returned (.int .i64 (k : Int)) ∧ Below w.heap.size w w' := by
  go_enter Tryz.func102, Tryz.ntmps102
  go_wp2_with fail
  go_loop [1, 5] (fun x i => x = .int .i64 (k : Int) ∧ i = .int .i64 0) (fun _ _ => 0)
  case atStart => exact ⟨rfl, rfl⟩
  case round =>
    obtain ⟨rfl, rfl⟩ := hrel
    go_wp2_with fail
    go_ret
    exact ⟨rfl, Below.refl _ _⟩
set_option maxHeartbeats 1000000 in
theorem heldHeaderS_nil (w : World) (a : Option Addr) (c k : Nat) :
    Calls Tryz.prog 150 #[.slice a 0 c, .int .i64 (k : Int)] w fun e w' => e = .returned (.int .i64 (k : Int)) ∧ Below w.heap.size w w' := by
  go_enter Tryz.func150, Tryz.ntmps150
  go_wp2_with fail
  go_loop [1, 5] (fun x i => x = .int .i64 (k : Int) ∧ i = .int .i64 0) (fun _ _ => 0)
  case atStart => exact ⟨rfl, rfl⟩
  case round =>
    obtain ⟨rfl, rfl⟩ := hrel
    go_wp2_with fail
    go_ret
    exact ⟨rfl, Below.refl _ _⟩
theorem markHeaderS_lv (w : World) (v : Value) (l : List Hdr) (hl : l.length ≤ 1048576) (h : HLV w v l) (base : Nat) (hb : ∀ b, v.ownBlock = some b → base ≤ b) (hbs : base ≤ w.heap.size) :
    Calls Tryz.prog 102 #[v, .int .i64 1] w fun e w' => e = .returned (.int .i64 ((1 + 2 * l.length : Nat) : Int)) ∧ HLV w' v (mkHL 1 l.length) ∧ HAV v w w' ∧ Below base w w' := by
  rcases h with ⟨rfl, rfl⟩ | ⟨g, c, rfl, hg, hi, hf⟩
  · exact (markHeaderS_nil w none 0 1).mono fun _ _ ⟨h1, h2⟩ => ⟨h1, .inl ⟨rfl, rfl⟩, .below h2, h2.mono hbs⟩
  · refine (markHeaderS_any w g 0 c l.length 1 l rfl hl (by omega) (by omega) hi hf hg).mono ?_
    rintro e w' ⟨h1, h2, h3, h4, h5⟩
    have hne : ∀ b, (Value.slice (some ⟨g, 0, none⟩) l.length c).ownBlock ≠ some b → b ≠ g := fun b hb e => hb (by subst e; rfl)
    refine ⟨h1, ?_, ⟨h3.size, fun b o hb hn => h3.cell b o hb (hne b hn), fun b o hb hn => h3.frozen b o hb (hne b hn)⟩, h4.mono (hb g rfl)⟩
    exact .inr ⟨g, c, by rw [mkHL_len], Nat.lt_of_lt_of_le hg h3.size, h2, h5⟩
theorem heldHeaderS_lv (w : World) (v : Value) (n : Nat) (hl : n ≤ 1048576) (h : HLV w v (mkHL 1 n)) :
    Calls Tryz.prog 150 #[v, .int .i64 1] w fun e w' => e = .returned (.int .i64 ((1 + 2 * n : Nat) : Int)) ∧ Below w.heap.size w w' := by
  rcases h with ⟨rfl, h0⟩ | ⟨g, c, rfl, _, hi, _⟩
  · have e := congrArg List.length h0
    rw [mkHL_len] at e
    simp at e
    subst e
    exact heldHeaderS_nil w none 0 1
  · rw [mkHL_len]
    exact heldHeaderS_any w g 0 c n 1 hl (by omega) (by omega) hi
end Go.Proofs.YtojcjpdgjohldaaGreatDoor
/-
  Results of head lines: compared, marked, held.
-/
namespace Go.Proofs.YtojcjpdgjohldaaGreatDoor
open Go.ChangeShapes Go.WideShapes Go.ChangeAt Go.RowKit Go.Sort
/-- A result in a variable. -/
structure HHRoom (w : World) (b : Nat) (c : Int) (v : Value) : Prop where
  c0 : w.cell? ⟨b, 0, none⟩ = some (.int .i64 c)
  c1 : w.cell? ⟨b, 1, none⟩ = some v
theorem HHRoom.lt {w : World} {b : Nat} {c : Int} {v : Value} (h : HHRoom w b c v) : b < w.heap.size := block_lt_of_cell h.c0
theorem HHRoom.keep {w w' : World} {b : Nat} {c : Int} {v : Value} (h : HHRoom w b c v) (hb : Below w.heap.size w w') : HHRoom w' b c v :=
  ⟨by rw [hb.cell (p := ⟨b, 0, none⟩) h.lt, h.c0], by rw [hb.cell (p := ⟨b, 1, none⟩) h.lt, h.c1]⟩
theorem HHRoom.av {w w' : World} {b : Nat} {c : Int} {v u : Value} (h : HHRoom w b c v) (k : HAV u w w') (hn : u.ownBlock ≠ some b) : HHRoom w' b c v :=
  ⟨by rw [k.cell b 0 h.lt hn, h.c0], by rw [k.cell b 1 h.lt hn, h.c1]⟩
theorem hroom_new (w : World) (c : Int) (a : Option Addr) (n cap : Nat) (t : TypeId) : HHRoom (w.alloc (.cells #[.int .i64 c, .slice a n cap] t)) w.heap.size c (.slice a n cap) := ⟨by simp, by simp⟩
theorem HLV.block_lt {w : World} {v : Value} {l : List Hdr} (h : HLV w v l) : ∀ b, v.ownBlock = some b → b < w.heap.size := by
  rcases h with ⟨rfl, _⟩ | ⟨g, c, rfl, hg, _⟩
  · intro b hb; cases hb
  · intro b hb; simp only [Value.ownBlock, Option.some.injEq] at hb; omega
/-- What a call hands back: head lines in memory of its own. -/
structure HGot (L : List Hdr) (base : Nat) (a : Option Addr) (n cap : Nat) (w : World) : Prop where
  len : n = L.length
  lv : HLV w (.slice a n cap) L
  ge : ∀ b, (Value.slice a n cap).ownBlock = some b → base ≤ b
theorem HRes.got {c : Int} {L : List Hdr} {base : Nat} {e : Ending} {w : World} (h : HRes c L base e w) : ∃ a n cap, e = .returned (.agg #[.int .i64 c, .slice a n cap]) ∧ HGot L base a n cap w := by
  obtain ⟨v, rfl, ho⟩ := h
  obtain ⟨a, c, rfl, _⟩ := ho.at
  exact ⟨a, _, c, rfl, rfl, ho.lv.1, ho.lv.2⟩
structure HMarkedR (w : World) (base : Nat) (a : Option Addr) (n ca : Nat) (w' : World) : Prop where
  lv : HLV w' (.slice a n ca) (mkHL 1 n)
  av : HAV (.slice a n ca) w w'
  low : Below base w w'
/-- Two results in variables, and their lines. -/
structure HKK (w : World) (X1 X2 : Nat) (c : Int) (v1 v2 : Value) (L1 L2 : List Hdr) (W : World) : Prop where
  b : Below w.heap.size w W
  r1 : HHRoom W X1 c v1
  r2 : HHRoom W X2 c v2
  l1 : HLV W v1 L1
  l2 : HLV W v2 L2
theorem HKK.keep {w : World} {X1 X2 : Nat} {c : Int} {v1 v2 : Value} {L1 L2 : List Hdr} {W W' : World} (h : HKK w X1 X2 c v1 v2 L1 L2 W) (hb : Below W.heap.size W W') : HKK w X1 X2 c v1 v2 L1 L2 W' :=
  ⟨h.b.trans (hb.mono h.b.size), h.r1.keep hb, h.r2.keep hb, h.l1.below hb, h.l2.below hb⟩
theorem HKK.av {w : World} {X1 X2 : Nat} {c : Int} {v1 v2 u : Value} {L1 L2 : List Hdr} {W W' : World} (h : HKK w X1 X2 c v1 v2 L1 L2 W) (k : HAV u W W') (hb : Below w.heap.size W W') (h1 : u.ownBlock ≠ some X1) (h2 : u.ownBlock ≠ some X2) (h3 : ∀ b, v1.ownBlock = some b → u.ownBlock ≠ some b) (h4 : ∀ b, v2.ownBlock = some b → u.ownBlock ≠ some b) : HKK w X1 X2 c v1 v2 L1 L2 W' :=
  ⟨h.b.trans hb, h.r1.av k h1, h.r2.av k h2, h.l1.av k h3, h.l2.av k h4⟩
/-- Lines of the law's own, that may be written. -/
structure HMine (W : World) (B : Nat) (l : List Hdr) : Prop where
  at0 : HeadsAt W B 0 l
  free : ∀ o, W.frozen? ⟨B, o, none⟩ = false
  lt : B < W.heap.size
theorem HMine.keep {W W' : World} {B : Nat} {l : List Hdr} (h : HMine W B l) (hb : Below W.heap.size W W') : HMine W' B l :=
  ⟨h.at0.keep hb, fun o => by rw [hb.frozen (p := ⟨B, o, none⟩) h.lt]; exact h.free o, Nat.lt_of_lt_of_le h.lt hb.size⟩
theorem HMine.mark {W : World} {B base : Nat} {l : List Hdr} (h : HMine W B l) (hl : l.length ≤ 1048576) (hb : base ≤ B) : ∃ q : Int, ¬ q < 0 ∧ Calls Tryz.prog 102 #[.slice (some ⟨B, 0, none⟩) l.length l.length, .int .i64 1] W fun e w' => e = .returned (.int .i64 q) ∧ HAV (.slice (some ⟨B, 0, none⟩) l.length l.length) W w' ∧ Below base W w' :=
  ⟨((1 + 2 * l.length : Nat) : Int), by omega, (markHeaderS_lv W (.slice (some ⟨B, 0, none⟩) l.length l.length) l hl (.inr ⟨B, _, rfl, h.lt, h.at0, h.free⟩) base (fun q hq => by simp only [Value.ownBlock, Option.some.injEq] at hq; omega) (by have := h.lt; omega)).mono fun _ _ ⟨h1, _, h3, h4⟩ => ⟨h1, h3, h4⟩⟩
end Go.Proofs.YtojcjpdgjohldaaGreatDoor
/-
  Results that hold bytes: compared, marked, held.
-/
namespace Go.Proofs.YtojcjpdgjohldaaGreatDoor
open Go.ChangeShapes Go.WideShapes Go.ChangeAt Go.RowKit Go.Sort
set_option maxHeartbeats 2000000 in
theorem eqBytesResult_own (W : World) (c : Int) (a1 a2 : Option Addr) (n1 n2 k1 k2 b1 b2 : Nat) (l : List UInt8) (hl : l.length ≤ 1048576) (h1 : BOwn W b1 (.slice a1 n1 k1) l) (h2 : BOwn W b2 (.slice a2 n2 k2) l) :
    Calls Tryz.prog 38 #[.agg #[.int .i64 c, .slice a1 n1 k1], .agg #[.int .i64 c, .slice a2 n2 k2]] W fun e w' => e = .returned (.bool true) ∧ Below W.heap.size W w' := by
  obtain ⟨x1, y1, e1, i1⟩ := h1.shape
  obtain ⟨x2, y2, e2, i2⟩ := h2.shape
  simp only [Value.slice.injEq] at e1 e2
  obtain ⟨rfl, rfl, rfl⟩ := e1
  obtain ⟨rfl, rfl, rfl⟩ := e2
  have bV : Below W.heap.size W ((W.alloc (.cells #[.int .i64 c, .slice a1 l.length k1] 29)).alloc (.cells #[.int .i64 c, .slice a2 l.length k2] 29)) := ((Below.refl _ _).alloc (Nat.le_refl _) _).alloc (by simp) _
  have C := eqByteS_same _ a1 a2 k1 k2 l hl (i1.keep bV) (i2.keep bV)
  have HB : Hid (Below W.heap.size W _) := bV
  clear bV i1 i2 h1 h2
  generalize l.length = n at *
  go_enter Tryz.func38, Tryz.ntmps38
  go_wp2_with fail
  refine C.mono ?_
  rintro e w1 ⟨rfl, hb1⟩
  have HB1 : Hid (Below W.heap.size W w1) := HB.out.trans (hb1.mono HB.out.size)
  clear hb1 C HB
  go_wp2_with fail
  go_ret
  exact ⟨rfl, HB1.out⟩
/-- All that was there, but for the memory of v, is as it was. -/
structure BAV (v : Value) (w w' : World) : Prop where
  size : w'.heap.size = w.heap.size
  cell : ∀ b o, b < w.heap.size → v.ownBlock ≠ some b → w'.cell? ⟨b, o, none⟩ = w.cell? ⟨b, o, none⟩
  frozen : ∀ b o, w'.frozen? ⟨b, o, none⟩ = w.frozen? ⟨b, o, none⟩
/-- v holds the marks from k on. -/
def MarkB (w : World) (v : Value) (k n : Nat) : Prop := n = 0 ∨ ∃ g c, v = .slice (some ⟨g, 0, none⟩) n c ∧ g < w.heap.size ∧ ∀ i, i < n → w.cell? ⟨g, i, none⟩ = some (.int .u8 (((k + i : Nat) : Int) % 256))
theorem MarkB.keep {w w' : World} {v : Value} {k n : Nat} (h : MarkB w v k n) (hb : Below w.heap.size w w') : MarkB w' v k n := by
  rcases h with h | ⟨g, c, e, hg, hc⟩
  · exact .inl h
  · exact .inr ⟨g, c, e, Nat.lt_of_lt_of_le hg hb.size, fun i hi => by rw [hb.cell (p := ⟨g, i, none⟩) hg]; exact hc i hi⟩
theorem MarkB.av {w w' : World} {v u : Value} {k n : Nat} (h : MarkB w v k n) (ha : BAV u w w') (hne : ∀ b, v.ownBlock = some b → u.ownBlock ≠ some b) : MarkB w' v k n := by
  rcases h with h | ⟨g, c, rfl, hg, hc⟩
  · exact .inl h
  · exact .inr ⟨g, c, rfl, by rw [ha.size]; exact hg, fun i hi => by rw [ha.cell g i hg (hne g rfl)]; exact hc i hi⟩
set_option maxHeartbeats 2000000 in
theorem markByteS_row (W : World) (g n cap k base : Nat) (hn : n ≤ 1048576) (hk : k ≤ 10000000) (hbase : base ≤ g) (hg : g < W.heap.size) (hm : HRoom W g n) :
    Calls Tryz.prog 46 #[.slice (some ⟨g, 0, none⟩) n cap, .int .i64 (k : Int)] W fun e w' => e = .returned (.int .i64 ((k + n : Nat) : Int)) ∧ (MarkB w' (.slice (some ⟨g, 0, none⟩) n cap) k n ∧ BAV (.slice (some ⟨g, 0, none⟩) n cap) W w' ∧ Below base W w') := by
  have HM : Hid (HRoom W g n) := hm
  clear hm
  go_enter Tryz.func46, Tryz.ntmps46
  go_wp2_with fail
  go_loopw [1, 5] (fun x i wr => ∃ j : Nat, j ≤ n ∧ i = .int .i64 (j : Int) ∧ x = .int .i64 ((k + j : Nat) : Int) ∧ HRoom wr g n ∧ (∀ q, q < j → wr.cell? ⟨g, q, none⟩ = some (.int .u8 (((k + q : Nat) : Int) % 256))) ∧ BAV (.slice (some ⟨g, 0, none⟩) n cap) W wr ∧ Below base W wr) (fun _ i _ => n - (intOf i).toNat)
  case atStart => exact ⟨0, Nat.zero_le _, rfl, rfl, HM.out, fun q hq => absurd hq (by omega), ⟨rfl, fun _ _ _ _ => rfl, fun _ _ => rfl⟩, Below.refl _ _⟩
  case round =>
    obtain ⟨j, hj, rfl, rfl, hroom, hcells, hav, hb⟩ := hrel
    clear HM
    by_cases hlt : j < n
    · obtain ⟨⟨u, hu⟩, hf⟩ := hroom j hlt
      have H1 : Hid (HRoom wr g n ∧ (∀ q, q < j → wr.cell? ⟨g, q, none⟩ = some (.int .u8 (((k + q : Nat) : Int) % 256))) ∧ BAV (.slice (some ⟨g, 0, none⟩) n cap) W wr ∧ Below base W wr) := ⟨hroom, hcells, hav, hb⟩
      have hw : IntKind.i64.wrap ((k + j : Nat) + 1 : Int) = ((k + (j + 1) : Nat) : Int) := by
        rw [show (((k + j : Nat) : Int) + 1) = ((k + (j + 1) : Nat) : Int) from by omega]
        unfold IntKind.wrap; simp [IntKind.signed, IntKind.bits]; omega
      have g1 : (j : Int) < n := by omega
      have HJ : Hid (((k + (j + 1) : Nat) : Int) = ((k + (j + 1) : Nat) : Int)) := rfl
      clear hroom hcells hav hb
      obtain ⟨K, hK⟩ : ∃ K : Int, K = ((k + j : Nat) : Int) := ⟨_, rfl⟩
      have HK : Hid (K = ((k + j : Nat) : Int)) := hK
      rw [← hK] at hw ⊢
      clear hK
      go_wp2_with fail
      refine ⟨⟨j + 1, by omega, by congr 1, by congr 1, ?_⟩, by simp [intOf]; omega⟩
      obtain ⟨hroom, hcells, hav, hb⟩ := H1.out
      rw [HK.out]
      refine ⟨hroom.set _ _, fun q hq => ?_, ⟨by simpa using hav.size, fun b o hb0 hne => ?_, fun b o => by rw [World.frozen?_setCell]; exact hav.frozen b o⟩, hb.setCell hbase _⟩
      · by_cases e : q = j
        · subst e; exact World.cell?_setCell_same _ _ _ hu
        · rw [World.cell?_setCell_other _ _ _ _ (hoff_ne (by omega))]; exact hcells q (by omega)
      · have hbg : b ≠ g := fun e => hne (by subst e; rfl)
        rw [World.cell?_setCell_other _ _ _ _ (fun e => hbg (congrArg Addr.block e).symm)]
        exact hav.cell b o hb0 hne
    · have ej : j = n := by omega
      subst ej
      have HF : Hid (MarkB wr (.slice (some ⟨g, 0, none⟩) j cap) k j ∧ BAV (.slice (some ⟨g, 0, none⟩) j cap) W wr ∧ Below base W wr) := ⟨.inr ⟨g, cap, rfl, by rw [hav.size]; exact hg, hcells⟩, hav, hb⟩
      clear hcells hav hb hroom
      obtain ⟨K, hK⟩ : ∃ K : Int, K = ((k + j : Nat) : Int) := ⟨_, rfl⟩
      have HK : Hid (K = ((k + j : Nat) : Int)) := hK
      rw [← hK]
      clear hK
      go_wp2_with fail
      go_ret
      exact ⟨ret_int (by rw [HK.out]), HF.out⟩
set_option maxHeartbeats 2000000 in
theorem heldByteS_row (W : World) (g n cap k : Nat) (hn : n ≤ 1048576) (hk : k ≤ 10000000) (hc : ∀ i, i < n → W.cell? ⟨g, i, none⟩ = some (.int .u8 (((k + i : Nat) : Int) % 256))) :
    Calls Tryz.prog 103 #[.slice (some ⟨g, 0, none⟩) n cap, .int .i64 (k : Int)] W fun e w' => e = .returned (.int .i64 ((k + n : Nat) : Int)) ∧ w' = W := by
  have HC : Hid (∀ i, i < n → W.cell? ⟨g, i, none⟩ = some (.int .u8 (((k + i : Nat) : Int) % 256))) := hc
  clear hc
  go_enter Tryz.func103, Tryz.ntmps103
  go_wp2_with fail
  go_loop [1, 5] (fun x i => ∃ j : Nat, j ≤ n ∧ i = .int .i64 (j : Int) ∧ x = .int .i64 ((k + j : Nat) : Int)) (fun _ i => n - (intOf i).toNat)
  case atStart => exact ⟨0, Nat.zero_le _, rfl, rfl⟩
  case round =>
    obtain ⟨j, hj, rfl, rfl⟩ := hrel
    by_cases hlt : j < n
    · have hu := HC.out j hlt
      have hw : IntKind.i64.wrap ((k + j : Nat) + 1 : Int) = ((k + (j + 1) : Nat) : Int) := by
        rw [show (((k + j : Nat) : Int) + 1) = ((k + (j + 1) : Nat) : Int) from by omega]
        unfold IntKind.wrap; simp [IntKind.signed, IntKind.bits]; omega
      have g1 : (j : Int) < n := by omega
      obtain ⟨K, hK⟩ : ∃ K : Int, K = ((k + j : Nat) : Int) := ⟨_, rfl⟩
      rw [← hK] at hw hu ⊢
      clear hK
      go_wp2_with fail
      exact ⟨⟨j + 1, by omega, by congr 1, by congr 1⟩, by simp [intOf]; omega⟩
    · have ej : j = n := by omega
      subst ej
      clear HC
      obtain ⟨K, hK⟩ : ∃ K : Int, K = ((k + j : Nat) : Int) := ⟨_, rfl⟩
      have HK : Hid (K = ((k + j : Nat) : Int)) := hK
      rw [← hK]
      clear hK
      go_wp2_with fail
      go_ret
      exact ⟨ret_int (by rw [HK.out]; omega), rfl⟩
/-! ### as results -/
set_option maxHeartbeats 2000000 in
theorem markBytesResult_own (W : World) (c : Int) (a : Option Addr) (n k b base : Nat) (l : List UInt8) (hl : l.length ≤ 1048576) (h : BOwn W b (.slice a n k) l) (hbb : base ≤ b) (hbW : base ≤ W.heap.size) :
    Calls Tryz.prog 41 #[.agg #[.int .i64 c, .slice a n k], .int .i64 1] W fun e w' => e = .returned (.int .i64 ((1 + n : Nat) : Int)) ∧ (MarkB w' (.slice a n k) 1 n ∧ (∀ b' o, b' < W.heap.size → (Value.slice a n k).ownBlock ≠ some b' → w'.cell? ⟨b', o, none⟩ = W.cell? ⟨b', o, none⟩ ∧ w'.frozen? ⟨b', o, none⟩ = W.frozen? ⟨b', o, none⟩) ∧ W.heap.size ≤ w'.heap.size ∧ Below base W w') := by
  obtain ⟨V, hV⟩ : ∃ V, V = W.alloc (.cells #[.int .i64 c, .slice a n k] 29) := ⟨_, rfl⟩
  have HV : Hid (V = W.alloc (.cells #[.int .i64 c, .slice a n k] 29)) := hV
  have bV : Below W.heap.size W V := by rw [hV]; exact (Below.refl _ _).alloc (Nat.le_refl _) _
  have C : Calls Tryz.prog 46 #[.slice a n k, .int .i64 1] V fun e w' => e = .returned (.int .i64 ((1 + n : Nat) : Int)) ∧ (MarkB w' (.slice a n k) 1 n ∧ BAV (.slice a n k) V w' ∧ Below base V w') := by
    rcases h with ⟨e, rfl⟩ | ⟨g, k', e, hg, hm⟩
    · simp only [Value.slice.injEq] at e
      obtain ⟨rfl, rfl, rfl⟩ := e
      clear hV HV
      go_enter Tryz.func46, Tryz.ntmps46
      go_wp2_with fail
      go_loop [1, 5] (fun x i => i = .int .i64 0 ∧ x = .int .i64 1) (fun _ _ => 0)
      case atStart => exact ⟨rfl, rfl⟩
      case round =>
        obtain ⟨rfl, rfl⟩ := hrel
        go_wp2_with fail
        go_ret
        exact ⟨rfl, .inl rfl, ⟨rfl, fun _ _ _ _ => rfl, fun _ _ => rfl⟩, Below.refl _ _⟩
    · simp only [Value.slice.injEq] at e
      obtain ⟨rfl, rfl, rfl⟩ := e
      have hm' := hm.keep bV
      refine markByteS_row V g l.length k 1 base hl (by omega) (by omega) hm'.lt ?_
      intro j hj
      have := hm'.at0 j l[j] (List.getElem?_eq_getElem hj)
      rw [Nat.zero_add] at this
      exact ⟨⟨_, this⟩, hm'.free j hj⟩
  have HB : Hid (Below W.heap.size W V) := bV
  have HBW : Hid (base ≤ W.heap.size) := hbW
  clear bV h hV
  go_enter Tryz.func41, Tryz.ntmps41
  go_wp2_with fail
  rw [← HV.out]
  refine C.mono ?_
  rintro e w1 ⟨rfl, hm1, hav, hb1⟩
  have HF : Hid (MarkB w1 (.slice a n k) 1 n ∧ (∀ b' o, b' < W.heap.size → (Value.slice a n k).ownBlock ≠ some b' → w1.cell? ⟨b', o, none⟩ = W.cell? ⟨b', o, none⟩ ∧ w1.frozen? ⟨b', o, none⟩ = W.frozen? ⟨b', o, none⟩) ∧ W.heap.size ≤ w1.heap.size ∧ Below base W w1) :=
    ⟨hm1, fun b' o hb hne => ⟨by rw [hav.cell b' o (Nat.lt_of_lt_of_le hb HB.out.size) hne, HB.out.cell (p := ⟨b', o, none⟩) hb], by rw [hav.frozen b' o, HB.out.frozen (p := ⟨b', o, none⟩) hb]⟩, by rw [hav.size]; exact HB.out.size, (HB.out.mono HBW.out).trans hb1⟩
  clear hm1 hav hb1 C HV HB HBW
  obtain ⟨K, hK⟩ : ∃ K : Int, K = ((1 + n : Nat) : Int) := ⟨_, rfl⟩
  have HK : Hid (K = ((1 + n : Nat) : Int)) := hK
  rw [← hK]
  clear hK
  go_wp2_with fail
  go_ret
  exact ⟨ret_int (by rw [HK.out]), HF.out⟩
set_option maxHeartbeats 2000000 in
theorem heldBytesResult_own (W : World) (c : Int) (a : Option Addr) (n k : Nat) (hn : n ≤ 1048576) (h : MarkB W (.slice a n k) 1 n) :
    Calls Tryz.prog 42 #[.agg #[.int .i64 c, .slice a n k], .int .i64 1] W fun e w' => e = .returned (.int .i64 ((1 + n : Nat) : Int)) ∧ Below W.heap.size W w' := by
  obtain ⟨V, hV⟩ : ∃ V, V = W.alloc (.cells #[.int .i64 c, .slice a n k] 29) := ⟨_, rfl⟩
  have HV : Hid (V = W.alloc (.cells #[.int .i64 c, .slice a n k] 29)) := hV
  have bV : Below W.heap.size W V := by rw [hV]; exact (Below.refl _ _).alloc (Nat.le_refl _) _
  have C : Calls Tryz.prog 103 #[.slice a n k, .int .i64 1] V fun e w' => e = .returned (.int .i64 ((1 + n : Nat) : Int)) ∧ w' = V := by
    rcases h.keep bV with rfl | ⟨g, k', e, hg, hm⟩
    · clear hV HV
      go_enter Tryz.func103, Tryz.ntmps103
      go_wp2_with fail
      go_loop [1, 5] (fun x i => i = .int .i64 0 ∧ x = .int .i64 1) (fun _ _ => 0)
      case atStart => exact ⟨rfl, rfl⟩
      case round =>
        obtain ⟨rfl, rfl⟩ := hrel
        go_wp2_with fail
        go_ret
        exact ⟨rfl, rfl⟩
    · simp only [Value.slice.injEq] at e
      obtain ⟨rfl, _, rfl⟩ := e
      exact heldByteS_row V g n k 1 hn (by omega) hm
  have HB : Hid (Below W.heap.size W V) := bV
  clear bV h hV
  obtain ⟨K, hK⟩ : ∃ K : Int, K = ((1 + n : Nat) : Int) := ⟨_, rfl⟩
  have HK : Hid (K = ((1 + n : Nat) : Int)) := hK
  rw [← hK] at C
  have hK0 : ¬ K < 0 := by omega
  clear hK
  go_enter Tryz.func42, Tryz.ntmps42
  go_wp2_with fail
  rw [← HV.out]
  refine C.mono ?_
  rintro e w1 ⟨rfl, hw⟩
  obtain rfl := hw.symm
  clear C HV hw
  go_wp2_with fail
  go_ret
  exact ⟨ret_int (by rw [HK.out]), HB.out⟩
end Go.Proofs.YtojcjpdgjohldaaGreatDoor
/-
  What a marking leaves as it was; requests marked.
-/
namespace Go.Proofs.YtojcjpdgjohldaaGreatDoor
open Go.ChangeShapes Go.WideShapes Go.ChangeAt Go.RowKit
/-- All that was there, but for the memory of v, is as it was. -/
structure OutV (v : Value) (W W' : World) : Prop where
  size : W.heap.size ≤ W'.heap.size
  cell : ∀ b o, b < W.heap.size → v.ownBlock ≠ some b → W'.cell? ⟨b, o, none⟩ = W.cell? ⟨b, o, none⟩
  frozen : ∀ b o, b < W.heap.size → v.ownBlock ≠ some b → W'.frozen? ⟨b, o, none⟩ = W.frozen? ⟨b, o, none⟩
theorem Four.out {v : Value} {W W' : World} {B : Nat} {v0 v1 v2 v3 : Value} (h : Four W B v0 v1 v2 v3) (k : OutV v W W') (hne : v.ownBlock ≠ some B) : Four W' B v0 v1 v2 v3 :=
  ⟨by rw [k.cell B 0 h.lt hne]; exact h.c0, by rw [k.cell B 1 h.lt hne]; exact h.c1, by rw [k.cell B 2 h.lt hne]; exact h.c2, by rw [k.cell B 3 h.lt hne]; exact h.c3, fun o => by rw [k.frozen B o h.lt hne]; exact h.fr o, Nat.lt_of_lt_of_le h.lt k.size⟩
theorem Two.out {v : Value} {W W' : World} {B : Nat} {v0 v1 : Value} (h : Two W B v0 v1) (k : OutV v W W') (hne : v.ownBlock ≠ some B) : Two W' B v0 v1 :=
  ⟨by rw [k.cell B 0 h.lt hne]; exact h.c0, by rw [k.cell B 1 h.lt hne]; exact h.c1, fun o => by rw [k.frozen B o h.lt hne]; exact h.fr o, Nat.lt_of_lt_of_le h.lt k.size⟩
theorem BOwn.out {v u : Value} {W W' : World} {base : Nat} {l : List UInt8} (h : BOwn W base u l) (k : OutV v W W') (hne : ∀ b, u.ownBlock = some b → v.ownBlock ≠ some b) : BOwn W' base u l := by
  rcases h with h | ⟨g, c, rfl, hg, hm⟩
  · exact .inl h
  · have hn := hne g rfl
    exact .inr ⟨g, c, rfl, hg, fun i x hx => by rw [k.cell g _ hm.lt hn]; exact hm.at0 i x hx, fun o ho => by rw [k.frozen g o hm.lt hn]; exact hm.free o ho, Nat.lt_of_lt_of_le hm.lt k.size⟩
theorem QMine.out {v : Value} {W W' : World} {B : Nat} {l : List Hdr} (h : QMine W B l) (k : OutV v W W') (hne : v.ownBlock ≠ some B) : QMine W' B l :=
  ⟨fun i r hr => by rw [k.cell B _ h.lt hne, k.cell B _ h.lt hne]; exact h.at0 i r hr, fun o => by rw [k.frozen B o h.lt hne]; exact h.free o, Nat.lt_of_lt_of_le h.lt k.size⟩
set_option maxHeartbeats 2000000 in
theorem markRequest_any (W : World) (m h p : ByteArray) (B base : Nat) (l : List Hdr) (hl : l.length ≤ 1048576) (hq : QMine W B l) (hb : base ≤ B) (hbW : base ≤ W.heap.size) :
    ∃ q : Int, ¬ q < 0 ∧ Calls Tryz.prog 40 #[.agg #[.string m, .string h, .string p, .slice (some ⟨B, 0, none⟩) l.length l.length], .int .i64 1] W fun e w' => e = .returned (.int .i64 q) ∧ (OutV (.slice (some ⟨B, 0, none⟩) l.length l.length) W w' ∧ Below base W w') := by
  obtain ⟨V, hV⟩ : ∃ V, V = W.alloc (.cells #[.string m, .string h, .string p, .slice (some ⟨B, 0, none⟩) l.length l.length] 26) := ⟨_, rfl⟩
  have HV : Hid (V = W.alloc (.cells #[.string m, .string h, .string p, .slice (some ⟨B, 0, none⟩) l.length l.length] 26)) := hV
  have bV : Below W.heap.size W V := by rw [hV]; exact (Below.refl _ _).alloc (Nat.le_refl _) _
  have hq' := hq.keep bV
  obtain ⟨q, hq0, C⟩ := HMine.mark (base := base) (⟨hq'.at0, hq'.free, hq'.lt⟩ : HMine V B l) hl hb
  refine ⟨q, hq0, ?_⟩
  have HB : Hid (Below W.heap.size W V ∧ base ≤ W.heap.size) := ⟨bV, hbW⟩
  clear bV hV hq hq'
  generalize l.length = n at *
  go_enter Tryz.func40, Tryz.ntmps40
  go_wp2_with fail
  rw [← HV.out]
  refine C.mono ?_
  rintro e w1 ⟨rfl, hav, hb1⟩
  have HF : Hid (OutV (.slice (some ⟨B, 0, none⟩) n n) W w1 ∧ Below base W w1) := ⟨⟨Nat.le_trans HB.out.1.size hav.size, fun b o hb0 hne => by rw [hav.cell b o (Nat.lt_of_lt_of_le hb0 HB.out.1.size) hne, HB.out.1.cell (p := ⟨b, o, none⟩) hb0], fun b o hb0 hne => by rw [hav.frozen b o (Nat.lt_of_lt_of_le hb0 HB.out.1.size) hne, HB.out.1.frozen (p := ⟨b, o, none⟩) hb0]⟩, (HB.out.1.mono HB.out.2).trans hb1⟩
  clear hav hb1 C HV HB
  go_wp2_with fail
  go_ret
  exact ⟨rfl, HF.out⟩
end Go.Proofs.YtojcjpdgjohldaaGreatDoor
/-
  Results that hold a request: compared, marked, held.
-/
namespace Go.Proofs.YtojcjpdgjohldaaGreatDoor
open Go.ChangeShapes Go.WideShapes Go.ChangeAt Go.RowKit
theorem HAV.after {v : Value} {w V w' : World} (hV : Below w.heap.size w V) (h : HAV v V w') : HAV v w w' :=
  ⟨Nat.le_trans hV.size h.size, fun b o hb hn => by rw [h.cell b o (Nat.lt_of_lt_of_le hb hV.size) hn]; exact hV.cell (p := ⟨b, o, none⟩) hb, fun b o hb hn => by rw [h.frozen b o (Nat.lt_of_lt_of_le hb hV.size) hn]; exact hV.frozen (p := ⟨b, o, none⟩) hb⟩
theorem HAV.then {v : Value} {w w1 w2 : World} (h : HAV v w w1) (hb : Below w1.heap.size w1 w2) : HAV v w w2 :=
  ⟨Nat.le_trans h.size hb.size, fun b o h1 h2 => by rw [hb.cell (p := ⟨b, o, none⟩) (Nat.lt_of_lt_of_le h1 h.size)]; exact h.cell b o h1 h2, fun b o h1 h2 => by rw [hb.frozen (p := ⟨b, o, none⟩) (Nat.lt_of_lt_of_le h1 h.size)]; exact h.frozen b o h1 h2⟩
theorem Five.av {v : Value} {W W' : World} {B : Nat} {v0 v1 v2 v3 v4 : Value} (h : Five W B v0 v1 v2 v3 v4) (k : HAV v W W') (hne : v.ownBlock ≠ some B) : Five W' B v0 v1 v2 v3 v4 :=
  ⟨by rw [k.cell B 0 h.lt hne]; exact h.c0, by rw [k.cell B 1 h.lt hne]; exact h.c1, by rw [k.cell B 2 h.lt hne]; exact h.c2, by rw [k.cell B 3 h.lt hne]; exact h.c3, by rw [k.cell B 4 h.lt hne]; exact h.c4, fun o => by rw [k.frozen B o h.lt hne]; exact h.fr o, Nat.lt_of_lt_of_le h.lt k.size⟩
set_option maxHeartbeats 2000000 in
theorem eqRequest_lv (W : World) (m h p : ByteArray) (a b : Option Addr) (n k ca cb : Nat) (l : List Hdr) (hl : l.length ≤ 1048576) (h1 : HLV W (.slice a n ca) l) (h2 : HLV W (.slice b k cb) l) :
    Calls Tryz.prog 39 #[.agg #[.string m, .string h, .string p, .slice a n ca], .agg #[.string m, .string h, .string p, .slice b k cb]] W fun e w' => e = .returned (.bool true) ∧ Below W.heap.size W w' := by
  obtain ⟨V, hV⟩ : ∃ V, V = (W.alloc (.cells #[.string m, .string h, .string p, .slice a n ca] 26)).alloc (.cells #[.string m, .string h, .string p, .slice b k cb] 26) := ⟨_, rfl⟩
  have HV : Hid (V = (W.alloc (.cells #[.string m, .string h, .string p, .slice a n ca] 26)).alloc (.cells #[.string m, .string h, .string p, .slice b k cb] 26)) := hV
  have bV : Below W.heap.size W V := by rw [hV]; exact ((Below.refl _ _).alloc (Nat.le_refl _) _).alloc (by simp) _
  have C := eqHeaderS_lv V _ _ l hl (h1.below bV) (h2.below bV)
  have HB : Hid (Below W.heap.size W V) := bV
  clear bV h1 h2 hV hl
  go_enter Tryz.func39, Tryz.ntmps39
  go_wp2_with fail
  rw [← HV.out]
  refine C.mono ?_
  rintro e w1 ⟨rfl, hb1⟩
  have KB : Hid (Below W.heap.size W w1) := HB.out.trans (hb1.mono HB.out.size)
  clear hb1 C HB HV
  go_wp2_with fail
  go_ret
  exact ⟨rfl, KB.out⟩
set_option maxHeartbeats 2000000 in
theorem eqRequestResult_lv (W : World) (c : Int) (m h p : ByteArray) (a b : Option Addr) (n k ca cb : Nat) (l : List Hdr) (hl : l.length ≤ 1048576) (h1 : HLV W (.slice a n ca) l) (h2 : HLV W (.slice b k cb) l) :
    Calls Tryz.prog 44 #[.agg #[.int .i64 c, .string m, .string h, .string p, .slice a n ca], .agg #[.int .i64 c, .string m, .string h, .string p, .slice b k cb]] W fun e w' => e = .returned (.bool true) ∧ Below W.heap.size W w' := by
  obtain ⟨V, hV⟩ : ∃ V, V = (W.alloc (.cells #[.int .i64 c, .string m, .string h, .string p, .slice a n ca] 38)).alloc (.cells #[.int .i64 c, .string m, .string h, .string p, .slice b k cb] 38) := ⟨_, rfl⟩
  have HV : Hid (V = (W.alloc (.cells #[.int .i64 c, .string m, .string h, .string p, .slice a n ca] 38)).alloc (.cells #[.int .i64 c, .string m, .string h, .string p, .slice b k cb] 38)) := hV
  have bV : Below W.heap.size W V := by rw [hV]; exact ((Below.refl _ _).alloc (Nat.le_refl _) _).alloc (by simp) _
  have C := eqRequest_lv V m h p a b n k ca cb l hl (h1.below bV) (h2.below bV)
  have HB : Hid (Below W.heap.size W V) := bV
  clear bV h1 h2 hV hl
  go_enter Tryz.func44, Tryz.ntmps44
  go_wp2_with fail
  rw [← HV.out]
  refine C.mono ?_
  rintro e w1 ⟨rfl, hb1⟩
  have KB : Hid (Below W.heap.size W w1) := HB.out.trans (hb1.mono HB.out.size)
  clear hb1 C HB HV
  go_wp2_with fail
  go_ret
  exact ⟨rfl, KB.out⟩
/-- Head lines marked: what holds behind it. -/
structure MkQ (base : Nat) (a : Option Addr) (n ca : Nat) (w w' : World) : Prop where
  lv : HLV w' (.slice a n ca) (mkHL 1 n)
  av : HAV (.slice a n ca) w w'
  low : Below base w w'
theorem MkQ.after {base : Nat} {a : Option Addr} {n ca : Nat} {w V w' : World} (hV : Below w.heap.size w V) (hb : base ≤ w.heap.size) (h : MkQ base a n ca V w') : MkQ base a n ca w w' :=
  ⟨h.lv, h.av.after hV, (hV.mono hb).trans h.low⟩
set_option maxRecDepth 100000 in
set_option maxHeartbeats 2000000 in
theorem markRequest_lv (w : World) (m h p : ByteArray) (a : Option Addr) (n ca : Nat) (l : List Hdr) (hn : n = l.length) (hl : l.length ≤ 1000) (hv : HLV w (.slice a n ca) l) (base : Nat) (hb : ∀ b, (Value.slice a n ca).ownBlock = some b → base ≤ b) (hbs : base ≤ w.heap.size) (q : Int) (hq : ((1 + 2 * n : Nat) : Int) = q) :
    Calls Tryz.prog 40 #[.agg #[.string m, .string h, .string p, .slice a n ca], .int .i64 1] w fun e w' => e = .returned (.int .i64 q) ∧ MkQ base a n ca w w' := by
  obtain ⟨V, hV⟩ : ∃ V, V = w.alloc (.cells #[.string m, .string h, .string p, .slice a n ca] 26) := ⟨_, rfl⟩
  have HV : Hid (V = w.alloc (.cells #[.string m, .string h, .string p, .slice a n ca] 26)) := hV
  have bV : Below w.heap.size w V := by rw [hV]; exact (Below.refl _ _).alloc (Nat.le_refl _) _
  have C : Calls Tryz.prog 102 #[.slice a n ca, .int .i64 1] V fun e w' => e = .returned (.int .i64 q) ∧ MkQ base a n ca w w' := by
    have := markHeaderS_lv V (.slice a n ca) l (by omega) (hv.below bV) base hb (Nat.le_trans hbs bV.size)
    rw [← hn, hq] at this
    exact this.mono fun e w1 ⟨he, h1, h2, h3⟩ => ⟨he, MkQ.after bV hbs ⟨h1, h2, h3⟩⟩
  clear bV hV hv hn hl hb hbs hq
  go_enter Tryz.func40, Tryz.ntmps40
  go_wp2_with fail
  rw [← HV.out]
  refine C.mono ?_
  rintro e w1 ⟨rfl, hk⟩
  have K : Hid (MkQ base a n ca w w1) := hk
  clear hk C HV
  go_wp2_with fail
  go_ret
  exact ⟨rfl, K.out⟩
set_option maxRecDepth 100000 in
set_option maxHeartbeats 2000000 in
theorem markRequestResult_lv (w : World) (c : Int) (m h p : ByteArray) (a : Option Addr) (n ca : Nat) (l : List Hdr) (hn : n = l.length) (hl : l.length ≤ 1000) (hv : HLV w (.slice a n ca) l) (base : Nat) (hb : ∀ b, (Value.slice a n ca).ownBlock = some b → base ≤ b) (hbs : base ≤ w.heap.size) (q : Int) (hq : ((1 + 2 * n : Nat) : Int) = q) :
    Calls Tryz.prog 47 #[.agg #[.int .i64 c, .string m, .string h, .string p, .slice a n ca], .int .i64 1] w fun e w' => e = .returned (.int .i64 q) ∧ MkQ base a n ca w w' := by
  obtain ⟨V, hV⟩ : ∃ V, V = w.alloc (.cells #[.int .i64 c, .string m, .string h, .string p, .slice a n ca] 38) := ⟨_, rfl⟩
  have HV : Hid (V = w.alloc (.cells #[.int .i64 c, .string m, .string h, .string p, .slice a n ca] 38)) := hV
  have bV : Below w.heap.size w V := by rw [hV]; exact (Below.refl _ _).alloc (Nat.le_refl _) _
  have C : Calls Tryz.prog 40 #[.agg #[.string m, .string h, .string p, .slice a n ca], .int .i64 1] V fun e w' => e = .returned (.int .i64 q) ∧ MkQ base a n ca w w' :=
    (markRequest_lv V m h p a n ca l hn hl (hv.below bV) base hb (Nat.le_trans hbs bV.size) q hq).mono fun e w1 ⟨he, h1⟩ => ⟨he, MkQ.after bV hbs h1⟩
  clear bV hV hv hn hl hb hbs hq
  go_enter Tryz.func47, Tryz.ntmps47
  go_wp2_with fail
  rw [← HV.out]
  refine C.mono ?_
  rintro e w1 ⟨rfl, hk⟩
  have K : Hid (MkQ base a n ca w w1) := hk
  clear hk C HV
  go_wp2_with fail
  go_ret
  exact ⟨rfl, K.out⟩
set_option maxHeartbeats 2000000 in
theorem heldRequest_lv (w : World) (m h p : ByteArray) (a : Option Addr) (n ca : Nat) (hl : n ≤ 1000) (hv : HLV w (.slice a n ca) (mkHL 1 n)) (q : Int) (hq : ((1 + 2 * n : Nat) : Int) = q) :
    Calls Tryz.prog 104 #[.agg #[.string m, .string h, .string p, .slice a n ca], .int .i64 1] w fun e w' => e = .returned (.int .i64 q) ∧ Below w.heap.size w w' := by
  have HE := heldHeaderS_lv (w.alloc (.cells #[.string m, .string h, .string p, .slice a n ca] 26)) (.slice a n ca) n (by omega) (hv.below ((Below.refl _ _).alloc (Nat.le_refl _) _))
  have g : ¬ q < 0 := by omega
  rw [hq] at HE
  clear hv hq
  go_enter Tryz.func104, Tryz.ntmps104
  go_wp2_with fail
  refine HE.mono ?_
  rintro e w1 ⟨rfl, hb⟩
  have KB : Hid (Below w.heap.size w w1) := ((Below.refl _ _).alloc (Nat.le_refl _) _).trans (hb.mono (by simp))
  clear hb HE
  go_wp2_with fail
  go_ret
  exact ⟨rfl, KB.out⟩
set_option maxHeartbeats 2000000 in
theorem heldRequestResult_lv (w : World) (c : Int) (m h p : ByteArray) (a : Option Addr) (n ca : Nat) (hl : n ≤ 1000) (hv : HLV w (.slice a n ca) (mkHL 1 n)) (q : Int) (hq : ((1 + 2 * n : Nat) : Int) = q) :
    Calls Tryz.prog 48 #[.agg #[.int .i64 c, .string m, .string h, .string p, .slice a n ca], .int .i64 1] w fun e w' => e = .returned (.int .i64 q) ∧ Below w.heap.size w w' := by
  have HE := heldRequest_lv (w.alloc (.cells #[.int .i64 c, .string m, .string h, .string p, .slice a n ca] 38)) m h p a n ca hl (hv.below ((Below.refl _ _).alloc (Nat.le_refl _) _)) q hq
  have g : ¬ q < 0 := by omega
  clear hv hq
  go_enter Tryz.func48, Tryz.ntmps48
  go_wp2_with fail
  refine HE.mono ?_
  rintro e w1 ⟨rfl, hb⟩
  have KB : Hid (Below w.heap.size w w1) := ((Below.refl _ _).alloc (Nat.le_refl _) _).trans (hb.mono (by simp))
  clear hb HE
  go_wp2_with fail
  go_ret
  exact ⟨rfl, KB.out⟩
end Go.Proofs.YtojcjpdgjohldaaGreatDoor
/-
  The law of ReadRequest.
-/
namespace Go.Proofs.YtojcjpdgjohldaaGreatDoor
open Go.ChangeShapes Go.WideShapes Go.ChangeAt Go.RowKit
/-- What a call hands back: head lines in memory of its own. -/
structure QHas (q : Rq) (base : Nat) (a : Option Addr) (n k : Nat) (w : World) : Prop where
  len : n = q.l.length
  lv : HLV w (.slice a n k) q.l
  ge : ∀ b, (Value.slice a n k).ownBlock = some b → base ≤ b ∧ b < w.heap.size
theorem QGot.has {c : Int} {q : Rq} {base : Nat} {e : Ending} {w : World} (h : QGot c q base e w) : ∃ a n k, e = .returned (.agg #[.int .i64 c, .string q.m, .string q.h, .string q.p, .slice a n k]) ∧ QHas q base a n k w := by
  obtain ⟨v, rfl, ho⟩ := h
  obtain ⟨a, c, rfl, _⟩ := ho.at
  exact ⟨a, _, c, rfl, rfl, ho.lv.1, fun b hb => ⟨ho.lv.2 b hb, ho.lv.1.block_lt b hb⟩⟩
theorem readQ_len (d : List UInt8) : (readQ d).2.l.length ≤ 20 := by
  unfold readQ
  split
  · exact Nat.zero_le _
  · split
    · exact Nat.zero_le _
    · rename_i x _
      split
      · split
        · split
          · show (dropH hostN (readHL (hmk x.2))).length ≤ 20
            have h1 := dropH_len hostN (readHL (hmk x.2))
            have h2 := readHL_len (hmk x.2)
            omega
          · exact Nat.zero_le _
        · exact Nat.zero_le _
      · exact Nat.zero_le _
/-- What lies in memory while the law goes on. -/
structure RQL (w : World) (c : Int) (m h p : ByteArray) (L : List Hdr) (X1 : Nat) (a1 : Option Addr) (n1 k1 X2 : Nat) (a2 : Option Addr) (n2 k2 : Nat) (X : World) : Prop where
  b : Below w.heap.size w X
  r1 : Five X X1 (.int .i64 c) (.string m) (.string h) (.string p) (.slice a1 n1 k1)
  l1 : HLV X (.slice a1 n1 k1) L
  r2 : Five X X2 (.int .i64 c) (.string m) (.string h) (.string p) (.slice a2 n2 k2)
theorem RQL.keep {w : World} {c : Int} {m h p : ByteArray} {L : List Hdr} {X1 : Nat} {a1 : Option Addr} {n1 k1 X2 : Nat} {a2 : Option Addr} {n2 k2 : Nat} {X X' : World} (k : RQL w c m h p L X1 a1 n1 k1 X2 a2 n2 k2 X) (hb : Below X.heap.size X X') : RQL w c m h p L X1 a1 n1 k1 X2 a2 n2 k2 X' :=
  ⟨k.b.trans (hb.mono k.b.size), k.r1.keep hb, (k.l1).below hb, k.r2.keep hb⟩
theorem RQL.av {w : World} {c : Int} {m h p : ByteArray} {L : List Hdr} {X1 : Nat} {a1 : Option Addr} {n1 k1 X2 : Nat} {a2 : Option Addr} {n2 k2 : Nat} {X X' : World} {v : Value} (k : RQL w c m h p L X1 a1 n1 k1 X2 a2 n2 k2 X) (ho : HAV v X X') (hb : Below w.heap.size X X') (e1 : v.ownBlock ≠ some X1) (e2 : ∀ b, (Value.slice a1 n1 k1).ownBlock = some b → v.ownBlock ≠ some b) (e3 : v.ownBlock ≠ some X2) : RQL w c m h p L X1 a1 n1 k1 X2 a2 n2 k2 X' :=
  ⟨k.b.trans hb, k.r1.av ho e1, k.l1.av ho e2, k.r2.av ho e3⟩
set_option maxRecDepth 100000 in
set_option maxHeartbeats 32000000 in
theorem lawReadRequest (E : Errs) (w : World) (a : Option Addr) (cap : Nat) (d : List UInt8) (hset : SetIs w) (hE : ErrsIs w E) (hmx : MaxIs w) (hi : BIn w a d) :
    Calls Tryz.prog 7 #[.slice a d.length cap] w fun e w' => e = .returned (.bool true) ∧ Below w.heap.size w w' := by
  by_cases hbig : (1048576 : Int) < d.length
  · clear hi
    generalize d.length = n at *
    go_enter Tryz.func7, Tryz.ntmps7
    go_wp2
    go_ret
    exact ⟨rfl, Below.refl _ _⟩
  have hd1 : d.length ≤ 1048576 := by omega
  have HT : Hid (∀ X, Below w.heap.size w X → Calls Tryz.prog 43 #[.slice a d.length cap] X fun e w' => e = .returned (.slice (some ⟨X.heap.size, 0, none⟩) d.length d.length) ∧ BMine w' X.heap.size d ∧ Below X.heap.size X w') := fun X hb => toByteS_any X a cap d hd1 (hi.keep hb)
  have HF : Hid (∀ X g, BMine X g d → Calls Tryz.prog 28 #[.slice (some ⟨g, 0, none⟩) d.length d.length] X fun e w' => (∃ a n k, e = .returned (.agg #[.int .i64 (readQ d).1, .string (readQ d).2.m, .string (readQ d).2.h, .string (readQ d).2.p, .slice a n k]) ∧ QHas (readQ d).2 X.heap.size a n k w') ∧ Below X.heap.size X w') := fun X g hg => (specReadQ_any X _ _ d hd1 hg.in).mono fun e w' ⟨h1, h2⟩ => ⟨QGot.has h1, h2⟩
  have HG : Hid (∀ X g, Below w.heap.size w X → BMine X g d → Calls Tryz.prog 21 #[.slice (some ⟨g, 0, none⟩) d.length d.length] X fun e w' => (∃ a n k, e = .returned (.agg #[.int .i64 (readQ d).1, .string (readQ d).2.m, .string (readQ d).2.h, .string (readQ d).2.p, .slice a n k]) ∧ QHas (readQ d).2 X.heap.size a n k w') ∧ Below X.heap.size X w') := fun X g hb hg => (implReadQ_any E X _ _ d hd1 (hset.below hb) (hE.below hb) (hmx.below hb) hg.in).mono fun e w' ⟨h1, h2⟩ => ⟨QGot.has h1, h2⟩
  have HQ : Hid (∀ X g1 g2, BMine X g1 d → BMine X g2 d → Calls Tryz.prog 45 #[.slice (some ⟨g1, 0, none⟩) d.length d.length, .slice (some ⟨g2, 0, none⟩) d.length d.length] X fun e w' => e = .returned (.bool true) ∧ Below X.heap.size X w') := fun X g1 g2 h1 h2 => eqByteS_same X _ _ _ _ d hd1 h1.in h2.in
  have HMB : Hid (∀ X g, BMine X g d → w.heap.size ≤ g → ∃ q : Int, ¬ q < 0 ∧ Calls Tryz.prog 46 #[.slice (some ⟨g, 0, none⟩) d.length d.length, .int .i64 1] X fun e w' => e = .returned (.int .i64 q) ∧ (HAV (.slice (some ⟨g, 0, none⟩) d.length d.length) X w' ∧ Below w.heap.size X w')) := fun X g hg hb => by
    refine ⟨((1 + d.length : Nat) : Int), by omega, ?_⟩
    have := markByteS_row X g d.length d.length 1 w.heap.size hd1 (by omega) hb hg.lt (fun j hj => ⟨⟨_, by have := hg.at0 j d[j] (List.getElem?_eq_getElem hj); rwa [Nat.zero_add] at this⟩, hg.free j hj⟩)
    exact this.mono fun e w' ⟨h1, _, h3, h4⟩ => ⟨h1, ⟨by rw [h3.size]; exact Nat.le_refl _, fun b o hb hn => h3.cell b o hb hn, fun b o _ _ => h3.frozen b o⟩, h4⟩
  have hL := readQ_len d
  clear hset hE hmx hi
  obtain ⟨R, hR⟩ : ∃ R, readQ d = R := ⟨_, rfl⟩
  rw [hR] at HF HG hL
  clear hR
  obtain ⟨c, m, h, p, L⟩ := R
  simp only at HF HG hL
  generalize d.length = n at *
  go_enter Tryz.func7, Tryz.ntmps7
  have C0 := HT.out w (Below.refl _ _)
  go_wp2_with fail
  refine C0.mono ?_
  rintro e w1 ⟨rfl, hm1, hb1⟩
  have K1 : Hid (Below w.heap.size w w1) := hb1
  have C1 := HF.out w1 _ hm1
  clear C0 hm1 hb1 HF
  go_wp2_with fail
  refine C1.mono ?_
  rintro e w2 ⟨⟨a1, n1, k1, rfl, g1⟩, hb2⟩
  obtain ⟨V, hV⟩ : ∃ V, V = w2.alloc (.cells #[.int .i64 c, .string m, .string h, .string p, .slice a1 n1 k1] 38) := ⟨_, rfl⟩
  have HV : Hid (V = w2.alloc (.cells #[.int .i64 c, .string m, .string h, .string p, .slice a1 n1 k1] 38)) := hV
  have aV : Below w2.heap.size w2 V := by rw [hV]; exact (Below.refl _ _).alloc (Nat.le_refl _) _
  have tV : Five V w2.heap.size (.int .i64 c) (.string m) (.string h) (.string p) (.slice a1 n1 k1) := by rw [hV]; exact Five.new _ _ _ _ _ _ _
  have b2 := K1.out.trans (hb2.mono K1.out.size)
  have K2 : Hid (Below w.heap.size w V ∧ Five V w2.heap.size (.int .i64 c) (.string m) (.string h) (.string p) (.slice a1 n1 k1) ∧ HLV V (.slice a1 n1 k1) L ∧ (∀ b, (Value.slice a1 n1 k1).ownBlock = some b → b < w2.heap.size) ∧ w.heap.size ≤ w2.heap.size ∧ w2.heap.size < V.heap.size) := ⟨b2.trans (aV.mono b2.size), tV, (g1.lv).below aV, fun b hb => (g1.ge b hb).2, b2.size, tV.lt⟩
  clear C1 hb2 hV aV tV b2 K1 g1
  have C2 := HT.out V K2.out.1
  go_wp2_with fail
  rw [← HV.out]
  refine C2.mono ?_
  rintro e w3 ⟨rfl, hm3, hb3⟩
  have K3 : Hid (Below w.heap.size w w3 ∧ Five w3 w2.heap.size (.int .i64 c) (.string m) (.string h) (.string p) (.slice a1 n1 k1) ∧ HLV w3 (.slice a1 n1 k1) L ∧ BMine w3 V.heap.size d) := ⟨K2.out.1.trans (hb3.mono K2.out.1.size), K2.out.2.1.keep hb3, (K2.out.2.2.1).below hb3, hm3⟩
  have O3 : Hid ((∀ b, (Value.slice a1 n1 k1).ownBlock = some b → b < w2.heap.size) ∧ w.heap.size ≤ w2.heap.size ∧ w2.heap.size < V.heap.size ∧ V.heap.size < w3.heap.size) := ⟨K2.out.2.2.2.1, K2.out.2.2.2.2.1, K2.out.2.2.2.2.2, hm3.lt⟩
  clear C2 hm3 hb3 K2 HV
  generalize w2.heap.size = X1 at *
  generalize V.heap.size = gx at *
  try clear V
  try clear w2
  have C3 := HG.out w3 gx K3.out.1 K3.out.2.2.2
  go_wp2_with fail
  refine C3.mono ?_
  rintro e w4 ⟨⟨a2, n2, k2, rfl, g2⟩, hb4⟩
  obtain ⟨Y, hY⟩ : ∃ Y, Y = w4.alloc (.cells #[.int .i64 c, .string m, .string h, .string p, .slice a2 n2 k2] 38) := ⟨_, rfl⟩
  have HY : Hid (Y = w4.alloc (.cells #[.int .i64 c, .string m, .string h, .string p, .slice a2 n2 k2] 38)) := hY
  have aY : Below w4.heap.size w4 Y := by rw [hY]; exact (Below.refl _ _).alloc (Nat.le_refl _) _
  have tY : Five Y w4.heap.size (.int .i64 c) (.string m) (.string h) (.string p) (.slice a2 n2 k2) := by rw [hY]; exact Five.new _ _ _ _ _ _ _
  have b4 := K3.out.1.trans (hb4.mono K3.out.1.size)
  have K5 : Hid (RQL w c m h p L X1 a1 n1 k1 w4.heap.size a2 n2 k2 Y ∧ HLV Y (.slice a2 n2 k2) L ∧ BMine Y gx d) := ⟨⟨b4.trans (aY.mono b4.size), (K3.out.2.1.keep hb4).keep aY, ((K3.out.2.2.1).below hb4).below aY, tY⟩, (g2.lv).below aY, (K3.out.2.2.2.keep hb4).keep aY⟩
  have O5 : Hid ((∀ b, (Value.slice a2 n2 k2).ownBlock = some b → w3.heap.size ≤ b ∧ b < w4.heap.size) ∧ w3.heap.size ≤ w4.heap.size ∧ n2 = L.length) := ⟨fun b hb => g2.ge b hb, hb4.size, g2.len⟩
  clear C3 hb4 hY aY tY b4 K3 g2
  have C5 := eqRequestResult_lv Y c m h p a2 a1 n2 n1 k2 k1 L (by omega) (K5.out.2.1) (K5.out.1.l1)
  obtain ⟨p0, p1, p2, p3, p4, _, _⟩ := K5.out.1.r1
  rw [HY.out] at p0 p1 p2 p3 p4
  go_wp2_with fail
  rw [← HY.out]
  refine C5.mono ?_
  rintro e w5 ⟨rfl, hb5⟩
  have K6 : Hid (RQL w c m h p L X1 a1 n1 k1 w4.heap.size a2 n2 k2 w5 ∧ HLV w5 (.slice a2 n2 k2) L ∧ BMine w5 gx d) := ⟨K5.out.1.keep hb5, (K5.out.2.1).below hb5, K5.out.2.2.keep hb5⟩
  clear p0 p1 p2 p3 p4 HY C5 K5 hb5
  try clear Y
  generalize w4.heap.size = X2 at *
  generalize w3.heap.size = y3 at *
  try clear w4
  try clear w3
  have C6 := HT.out w5 K6.out.1.b
  go_wp2_with fail
  refine C6.mono ?_
  rintro e w6 ⟨rfl, hm6, hb6⟩
  have K7 : Hid (RQL w c m h p L X1 a1 n1 k1 X2 a2 n2 k2 w6 ∧ HLV w6 (.slice a2 n2 k2) L ∧ BMine w6 gx d) := ⟨K6.out.1.keep hb6, (K6.out.2.1).below hb6, K6.out.2.2.keep hb6⟩
  have C7 := HQ.out w6 gx _ K7.out.2.2 hm6
  clear C6 hm6 hb6 K6 HQ
  go_wp2_with fail
  refine C7.mono ?_
  rintro e w7 ⟨rfl, hb7⟩
  have K8 : Hid (RQL w c m h p L X1 a1 n1 k1 X2 a2 n2 k2 w7 ∧ HLV w7 (.slice a2 n2 k2) L ∧ BMine w7 gx d) := ⟨K7.out.1.keep hb7, (K7.out.2.1).below hb7, K7.out.2.2.keep hb7⟩
  clear C7 hb7 K7
  try clear w6
  try clear w5
  obtain ⟨qx, hqx, C8⟩ := HMB.out w7 gx K8.out.2.2 (by have := O3.out; omega)
  clear HMB
  go_wp2_with fail
  refine C8.mono ?_
  rintro e w8 ⟨rfl, hov, hb8⟩
  have K9 : Hid (RQL w c m h p L X1 a1 n1 k1 X2 a2 n2 k2 w8 ∧ HLV w8 (.slice a2 n2 k2) L) := by
    have o3 := O3.out
    have o5 := O5.out
    refine ⟨K8.out.1.av hov hb8 (fun e => ?_) (fun b hb e => ?_) (fun e => ?_), (K8.out.2.1).av hov fun b hb e => ?_⟩
    all_goals (simp only [Value.ownBlock, Option.some.injEq] at e; first | (have := o3.1 b hb; omega) | (have := o5.1 b hb; omega) | omega)
  clear hov hb8 C8 K8
  try clear w7
  have hqd : decide (qx < 0) = false := by simpa using hqx
  have C9 := eqRequestResult_lv w8 c m h p a2 a1 n2 n1 k2 k1 L (by omega) (K9.out.2) (K9.out.1.l1)
  obtain ⟨p0, p1, p2, p3, p4, _, _⟩ := K9.out.1.r1
  obtain ⟨s0, s1, s2, s3, s4, _, _⟩ := K9.out.1.r2
  go_wp2_with fail
  refine C9.mono ?_
  rintro e w9 ⟨rfl, hb9⟩
  have K10 : Hid (RQL w c m h p L X1 a1 n1 k1 X2 a2 n2 k2 w9 ∧ HLV w9 (.slice a2 n2 k2) L) := ⟨K9.out.1.keep hb9, (K9.out.2).below hb9⟩
  clear C9 hb9 p0 p1 p2 p3 p4 s0 s1 s2 s3 s4 hqd K9
  try clear w8
  obtain ⟨q, hq⟩ : ∃ q : Int, ((1 + 2 * n2 : Nat) : Int) = q := ⟨_, rfl⟩
  have HQQ : Hid (((1 + 2 * n2 : Nat) : Int) = q) := hq
  have hq0 : ¬ q < 0 := by omega
  have C10 := markRequestResult_lv w9 c m h p a2 n2 k2 L O5.out.2.2 (by omega) K10.out.2 w.heap.size (fun b hb => by have := O5.out.1 b hb; have := O3.out; omega) K10.out.1.b.size q hq
  clear hq
  obtain ⟨s0, s1, s2, s3, s4, _, _⟩ := K10.out.1.r2
  go_wp2_with fail
  refine C10.mono ?_
  rintro e w10 ⟨rfl, hmk⟩
  have K11 : Hid (RQL w c m h p L X1 a1 n1 k1 X2 a2 n2 k2 w10 ∧ HLV w10 (.slice a2 n2 k2) (mkHL 1 n2)) := by
    have o3 := O3.out
    have o5 := O5.out
    refine ⟨K10.out.1.av hmk.av hmk.low (fun e => ?_) (fun b hb e => ?_) (fun e => ?_), hmk.lv⟩
    · have := o5.1 _ e; omega
    · have := o5.1 _ e; have := o3.1 b hb; omega
    · have := o5.1 _ e; omega
  clear hmk C10 K10 s0 s1 s2 s3 s4
  try clear w9
  have hn2 : n2 ≤ 1000 := by rw [O5.out.2.2]; omega
  have HHD : Hid (∀ X, HLV X (.slice a2 n2 k2) (mkHL 1 n2) → Calls Tryz.prog 48 #[.agg #[.int .i64 c, .string m, .string h, .string p, .slice a2 n2 k2], .int .i64 1] X fun e w' => e = .returned (.int .i64 q) ∧ Below X.heap.size X w') := fun X hm => heldRequestResult_lv X c m h p a2 n2 k2 hn2 hm q HQQ.out
  have C11 := HHD.out w10 K11.out.2
  obtain ⟨s0, s1, s2, s3, s4, _, _⟩ := K11.out.1.r2
  go_wp2_with fail
  refine C11.mono ?_
  rintro e w11 ⟨rfl, hb11⟩
  have K12 : Hid (RQL w c m h p L X1 a1 n1 k1 X2 a2 n2 k2 w11 ∧ HLV w11 (.slice a2 n2 k2) (mkHL 1 n2)) := ⟨K11.out.1.keep hb11, (K11.out.2).below hb11⟩
  clear C11 hb11 K11 s0 s1 s2 s3 s4
  try clear w10
  have C12 := HT.out w11 K12.out.1.b
  go_wp2_with fail
  refine C12.mono ?_
  rintro e w12 ⟨rfl, hm12, hb12⟩
  have K13 : Hid (RQL w c m h p L X1 a1 n1 k1 X2 a2 n2 k2 w12 ∧ HLV w12 (.slice a2 n2 k2) (mkHL 1 n2)) := ⟨K12.out.1.keep hb12, (K12.out.2).below hb12⟩
  have C13 := HG.out w12 _ K13.out.1.b hm12
  clear C12 hm12 hb12 K12 HT HG
  go_wp2_with fail
  refine C13.mono ?_
  rintro e w13 ⟨⟨a3, n3, k3, rfl, g3⟩, hb13⟩
  obtain ⟨Z, hZ⟩ : ∃ Z, Z = w13.alloc (.cells #[.int .i64 c, .string m, .string h, .string p, .slice a3 n3 k3] 38) := ⟨_, rfl⟩
  have HZ : Hid (Z = w13.alloc (.cells #[.int .i64 c, .string m, .string h, .string p, .slice a3 n3 k3] 38)) := hZ
  have aZ : Below w13.heap.size w13 Z := by rw [hZ]; exact (Below.refl _ _).alloc (Nat.le_refl _) _
  have K14 : Hid (RQL w c m h p L X1 a1 n1 k1 X2 a2 n2 k2 Z ∧ HLV Z (.slice a2 n2 k2) (mkHL 1 n2)) := ⟨(K13.out.1.keep hb13).keep aZ, ((K13.out.2).below hb13).below aZ⟩
  have C14 := eqRequestResult_lv Z c m h p a3 a1 n3 n1 k3 k1 L (by omega) ((g3.lv).below aZ) (K14.out.1.l1)
  obtain ⟨p0, p1, p2, p3, p4, _, _⟩ := K14.out.1.r1
  rw [HZ.out] at p0 p1 p2 p3 p4
  clear C13 hb13 g3 hZ aZ K13
  go_wp2_with fail
  rw [← HZ.out]
  refine C14.mono ?_
  rintro e w14 ⟨rfl, hb14⟩
  have K15 : Hid (RQL w c m h p L X1 a1 n1 k1 X2 a2 n2 k2 w14 ∧ HLV w14 (.slice a2 n2 k2) (mkHL 1 n2)) := ⟨K14.out.1.keep hb14, (K14.out.2).below hb14⟩
  clear C14 hb14 p0 p1 p2 p3 p4 HZ K14
  try clear Z
  have C15 := HHD.out w14 K15.out.2
  obtain ⟨s0, s1, s2, s3, s4, _, _⟩ := K15.out.1.r2
  go_wp2_with fail
  refine C15.mono ?_
  rintro e w15 ⟨rfl, hb15⟩
  have KF : Hid (Below w.heap.size w w15) := K15.out.1.b.trans (hb15.mono K15.out.1.b.size)
  clear C15 hb15 K15 s0 s1 s2 s3 s4 HHD
  go_wp2_with fail
  go_ret
  exact ⟨rfl, KF.out⟩
end Go.Proofs.YtojcjpdgjohldaaGreatDoor
/-
  Head lines that came in, opened.
-/
namespace Go.Proofs.YtojcjpdgjohldaaGreatDoor
open Go.ChangeShapes Go.WideShapes Go.ChangeAt Go.RowKit Go.Deep
theorem headerCells : Tryz.prog.cellsOf 168 = 2 := by kernel_rfl
theorem hOneS : Tryz.prog.cellsOf 9 = 1 := by kernel_rfl
theorem hdr_of {H : Type} {enc : TypeId × Value → H} {w : World} {base : Nat} {spare : Nat → Bool} {held : Bool} {fuel : Nat} {cs : List Value} {x : DataW H × List MemPlace}
    (h : DataW.trod enc Tryz.prog w base spare held fuel 168 cs = some x) : ∃ r : Hdr, cs = [.string r.name, .string r.value] ∧ r.name.size ≤ maxLen ∧ r.value.size ≤ maxLen := by
  obtain ⟨y0, y1, n, _, hl, h0, h2⟩ := trod_struct2 Tryz.underlying168 h
  rw [headerCells] at hl
  simp only [hOneS] at h0 h2
  obtain ⟨s0, e0, _, z0⟩ := DataW.trod_string Tryz.underlying9 h0
  obtain ⟨s2, e2, _, z2⟩ := DataW.trod_string Tryz.underlying9 h2
  match cs, hl with
  | [c0, c2], _ =>
    simp only [List.drop_zero, List.take_succ_cons, List.take_zero, List.drop_succ_cons, List.cons.injEq, and_true] at e0 e2
    exact ⟨⟨s0, s2⟩, by rw [e0, e2], z0, z2⟩
theorem open_headers {H : Type} {enc : TypeId × Value → H} {w : World} {base : Nat} {spare : Nat → Bool} {held : Bool} {fuel : Nat} {a : Option Addr} {len cap : Nat} {x : DataW H × List MemPlace}
    (h : DataW.trod enc Tryz.prog w base spare held fuel 54 [.slice a len cap] = some x) :
    ∃ l : List Hdr, l.length = len ∧ len ≤ maxLen ∧ SmallHdrs l ∧ (l = [] ∨ ∃ b off, a = some ⟨b, off, none⟩ ∧ HeadsAt w b off l) := by
  rcases open_slice Tryz.underlying54 h with ⟨hcs, _⟩ | ⟨A, len', cap', m, n, D, Pl, hcs, _, hl, hm, hmm, _, hel⟩
  · simp only [List.cons.injEq, Value.slice.injEq, and_true] at hcs
    obtain ⟨_, rfl, _⟩ := hcs
    exact ⟨[], rfl, by unfold maxLen; omega, fun i r hr => by simp at hr, .inl rfl⟩
  · simp only [List.cons.injEq, Value.slice.injEq, and_true] at hcs
    obtain ⟨rfl, rfl, rfl⟩ := hcs
    have hlm : len ≤ m := by rw [hmm]; split <;> omega
    have hrec : ∀ i, i < len → ∃ r : Hdr, w.cells? base (A.add (i * 2)) 2 = some [.string r.name, .string r.value] ∧ r.name.size ≤ maxLen ∧ r.value.size ≤ maxLen := by
      intro i hi
      obtain ⟨cs', hc, ht⟩ := hel i (by omega)
      rw [headerCells] at hc
      obtain ⟨r, rfl, z⟩ := hdr_of ht
      exact ⟨r, hc, z⟩
    obtain ⟨f, hf⟩ : ∃ f : Nat → Hdr, ∀ i, i < len → w.cells? base (A.add (i * 2)) 2 = some [.string (f i).name, .string (f i).value] ∧ (f i).name.size ≤ maxLen ∧ (f i).value.size ≤ maxLen := by
      classical
      refine ⟨fun i => if hi : i < len then (hrec i hi).choose else ⟨.empty, .empty⟩, fun i hi => ?_⟩
      simp only [dif_pos hi]
      exact (hrec i hi).choose_spec
    refine ⟨(List.range len).map f, by simp, by omega, ?_, ?_⟩
    · intro i r hr
      rw [List.getElem?_map] at hr
      obtain ⟨j, hj, rfl⟩ := Option.map_eq_some_iff.1 hr
      obtain ⟨hlt, rfl⟩ := List.getElem?_eq_some_iff.1 hj
      simp at hlt
      simpa using (hf i hlt).2
    · by_cases h0 : len = 0
      · subst h0; exact .inl rfl
      · obtain ⟨b, off, spot⟩ := A
        have cells : ∀ i, i < len → ∀ j, j < 2 → w.cell? ((⟨b, off, spot⟩ : Addr).add (i * 2 + j)) = ([.string (f i).name, .string (f i).value] : List Value)[j]? := by
          intro i hi j hj
          have c := (World.cells?_some (hf i hi).1).2.2 j hj
          rw [add_add] at c
          exact c
        have hs : spot = none := by
          have c := cells 0 (by omega) 0 (by omega)
          simp only [Nat.zero_mul, Nat.add_zero, List.getElem?_cons_zero] at c
          simpa [Addr.add] using World.cell?_spot c
        subst hs
        have hadd : ∀ i, (⟨b, off, none⟩ : Addr).add i = ⟨b, off + i, none⟩ := fun i => by unfold Addr.add; split <;> simp_all
        refine .inr ⟨b, off, rfl, fun i r hr => ?_⟩
        rw [List.getElem?_map] at hr
        obtain ⟨j, hj, rfl⟩ := Option.map_eq_some_iff.1 hr
        obtain ⟨hlt, rfl⟩ := List.getElem?_eq_some_iff.1 hj
        simp only [List.length_range] at hlt
        simp only [List.getElem_range]
        have q0 := cells i hlt 0 (by omega)
        have q1 := cells i hlt 1 (by omega)
        rw [hadd] at q0 q1
        exact ⟨by simpa using q0, by simpa [Nat.add_assoc] using q1⟩
end Go.Proofs.YtojcjpdgjohldaaGreatDoor
/-
  A request and a response that came in by value, opened.
-/
namespace Go.Proofs.YtojcjpdgjohldaaGreatDoor
open Go.ChangeShapes Go.WideShapes Go.ChangeAt Go.RowKit Go.Deep
theorem requestCells : Tryz.prog.cellsOf 56 = 4 := by kernel_rfl
theorem headsOne : Tryz.prog.cellsOf 54 = 1 := by kernel_rfl
theorem slice_cs {H : Type} {enc : TypeId × Value → H} {w : World} {base : Nat} {spare : Nat → Bool} {held : Bool} {fuel : Nat} {cs : List Value} {t e : TypeId} {x : DataW H × List MemPlace}
    (hu : Tryz.prog.underlying t = some (.slice e)) (h : DataW.trod enc Tryz.prog w base spare held fuel t cs = some x) : ∃ a len cap, cs = [.slice a len cap] := by
  rcases open_slice hu h with ⟨hcs, _⟩ | ⟨A, len', cap', m, n, D, Pl, hcs, _⟩
  · exact ⟨_, _, _, hcs⟩
  · exact ⟨_, _, _, hcs⟩
set_option maxRecDepth 100000 in
theorem open_request {H : Type} {enc : TypeId × Value → H} {w : World} {r : Reach} {b0 base : Nat} {spare : Nat → Bool} {held : Bool} {v : Value} {d : DataW H} {p : List MemPlace}
    (hv : Value.okWide Tryz.prog w r b0 56 v) (h : DataW.Trod enc Tryz.prog w base spare held 56 v d p) :
    ∃ (m h p : ByteArray) (a : Option Addr) (cap : Nat) (l : List Hdr), v = .agg #[.string m, .string h, .string p, .slice a l.length cap] ∧ m.size ≤ maxLen ∧ h.size ≤ maxLen ∧ p.size ≤ maxLen ∧ l.length ≤ maxLen ∧ SmallHdrs l ∧ (l = [] ∨ ∃ b off, a = some ⟨b, off, none⟩ ∧ HeadsAt w b off l) := by
  obtain ⟨cs, rfl, hsz⟩ := okWide_struct Tryz.underlying56 hv
  obtain ⟨fuel, hf0⟩ := h
  obtain ⟨xs, n, _, _, hl, hlen, hf⟩ := DataW.trod_struct Tryz.underlying56 hf0
  match xs, hlen with
  | [y0, y1, y2, y3], _ =>
    have h0 : DataW.trod enc Tryz.prog w base spare held n 9 (((Value.agg cs).cells.toList.drop 0).take (Tryz.prog.cellsOf 9)) = some y0 := hf 0 _ rfl
    have h1 : DataW.trod enc Tryz.prog w base spare held n 9 (((Value.agg cs).cells.toList.drop 1).take (Tryz.prog.cellsOf 9)) = some y1 := hf 1 _ rfl
    have h2 : DataW.trod enc Tryz.prog w base spare held n 9 (((Value.agg cs).cells.toList.drop 2).take (Tryz.prog.cellsOf 9)) = some y2 := hf 2 _ rfl
    have h3 : DataW.trod enc Tryz.prog w base spare held n 54 (((Value.agg cs).cells.toList.drop 3).take (Tryz.prog.cellsOf 54)) = some y3 := hf 3 _ rfl
    rw [hOneS] at h0 h1 h2
    rw [headsOne] at h3
    obtain ⟨s0, e0, _, z0⟩ := DataW.trod_string Tryz.underlying9 h0
    obtain ⟨s1, e1, _, z1⟩ := DataW.trod_string Tryz.underlying9 h1
    obtain ⟨s2, e2, _, z2⟩ := DataW.trod_string Tryz.underlying9 h2
    obtain ⟨a, len, cap, e3⟩ := slice_cs Tryz.underlying54 h3
    rw [e3] at h3
    obtain ⟨l, rfl, m3, s3, o3⟩ := open_headers h3
    refine ⟨s0, s1, s2, a, cap, l, ?_, z0, z1, z2, m3, s3, o3⟩
    have e : cs.toList = [.string s0, .string s1, .string s2, .slice a l.length cap] := by
      simp only [Value.cells] at e0 e1 e2 e3 hl
      rw [requestCells] at hl
      match hc : cs.toList, hl with
      | [c0, c1, c2, c3], _ =>
        rw [hc] at e0 e1 e2 e3
        simp only [List.drop_zero, List.take_succ_cons, List.take_zero, List.drop_succ_cons, List.cons.injEq, and_true] at e0 e1 e2 e3
        rw [e0, e1, e2, e3]
    congr 1
    exact Array.toList_inj.1 e
end Go.Proofs.YtojcjpdgjohldaaGreatDoor
/-
  A response, a row of bytes, a list of texts that came in, opened.
-/
namespace Go.Proofs.YtojcjpdgjohldaaGreatDoor
open Go.ChangeShapes Go.WideShapes Go.ChangeAt Go.RowKit Go.Deep
theorem bytesOne : Tryz.prog.cellsOf 5 = 1 := by kernel_rfl
theorem open_bytes {H : Type} {enc : TypeId × Value → H} {w : World} {base : Nat} {spare : Nat → Bool} {held : Bool} {fuel : Nat} {a : Option Addr} {len cap : Nat} {x : DataW H × List MemPlace}
    (h : DataW.trod enc Tryz.prog w base spare held fuel 22 [.slice a len cap] = some x) : ∃ l : List UInt8, l.length = len ∧ len ≤ maxLen ∧ BIn w a l := by
  rcases open_ints Tryz.underlying22 Tryz.underlying5 bytesOne h with ⟨hcs, _⟩ | ⟨A, l', c', zs, hcs, _, hl, hm, hz, _, hcell, hwz⟩
  · simp only [List.cons.injEq, Value.slice.injEq, and_true] at hcs
    obtain ⟨_, rfl, _⟩ := hcs
    exact ⟨[], rfl, by unfold maxLen; omega, .inl rfl⟩
  · simp only [List.cons.injEq, Value.slice.injEq, and_true] at hcs
    obtain ⟨rfl, rfl, rfl⟩ := hcs
    have hlz : len ≤ zs.length := by rw [hz]; split <;> omega
    refine ⟨(zs.take len).map fun z => UInt8.ofNat z.toNat, by simp; omega, by omega, ?_⟩
    by_cases h0 : len = 0
    · subst h0; exact .inl rfl
    · obtain ⟨b, off, spot⟩ := A
      have hc := hcell 0 (by omega)
      have hspot : spot = none := by simpa [Addr.add] using World.cell?_spot hc
      subst hspot
      have hadd : ∀ i, (⟨b, off, none⟩ : Addr).add i = ⟨b, off + i, none⟩ := fun i => by unfold Addr.add; split <;> simp_all
      refine .inr ⟨b, off, rfl, fun i c hr => ?_⟩
      rw [List.getElem?_map] at hr
      obtain ⟨z, hz1, rfl⟩ := Option.map_eq_some_iff.1 hr
      have hi : i < len := by have := (List.getElem?_eq_some_iff.1 hz1).1; simp at this; omega
      rw [List.getElem?_take_of_lt hi] at hz1
      have h1 := hcell i (by omega)
      rw [hadd, List.getD_eq_getElem?_getD, hz1] at h1
      rw [h1]
      have hw := hwz z (List.mem_of_getElem? hz1)
      simp only [Lit.wf, Bool.and_eq_true, decide_eq_true_eq] at hw
      have w1 : 0 ≤ z := hw.1
      have w2 : z ≤ 255 := hw.2
      have e : ((UInt8.ofNat z.toNat).toNat : Int) = z := by
        rw [UInt8.toNat_ofNat']
        omega
      rw [e]; rfl
theorem responseCells : Tryz.prog.cellsOf 73 = 3 := by kernel_rfl
theorem byteSOne : Tryz.prog.cellsOf 22 = 1 := by kernel_rfl
theorem intOne : Tryz.prog.cellsOf 2 = 1 := by kernel_rfl
set_option maxRecDepth 100000 in
theorem open_response {H : Type} {enc : TypeId × Value → H} {w : World} {r : Reach} {b0 base : Nat} {spare : Nat → Bool} {held : Bool} {v : Value} {d : DataW H} {p : List MemPlace}
    (hv : Value.okWide Tryz.prog w r b0 73 v) (h : DataW.Trod enc Tryz.prog w base spare held 73 v d p) :
    ∃ (z : Int) (a : Option Addr) (cap : Nat) (l : List Hdr) (b : Option Addr) (bc : Nat) (bl : List UInt8), v = .agg #[.int .i64 z, .slice a l.length cap, .slice b bl.length bc] ∧ l.length ≤ maxLen ∧ SmallHdrs l ∧ (l = [] ∨ ∃ b off, a = some ⟨b, off, none⟩ ∧ HeadsAt w b off l) ∧ bl.length ≤ maxLen ∧ BIn w b bl := by
  obtain ⟨cs, rfl, hsz⟩ := okWide_struct Tryz.underlying73 hv
  obtain ⟨fuel, hf0⟩ := h
  obtain ⟨xs, n, _, _, hl, hlen, hf⟩ := DataW.trod_struct Tryz.underlying73 hf0
  match xs, hlen with
  | [y0, y1, y2], _ =>
    have h0 : DataW.trod enc Tryz.prog w base spare held n 2 (((Value.agg cs).cells.toList.drop 0).take (Tryz.prog.cellsOf 2)) = some y0 := hf 0 _ rfl
    have h1 : DataW.trod enc Tryz.prog w base spare held n 54 (((Value.agg cs).cells.toList.drop 1).take (Tryz.prog.cellsOf 54)) = some y1 := hf 1 _ rfl
    have h2 : DataW.trod enc Tryz.prog w base spare held n 22 (((Value.agg cs).cells.toList.drop 2).take (Tryz.prog.cellsOf 22)) = some y2 := hf 2 _ rfl
    rw [intOne] at h0
    rw [headsOne] at h1
    rw [byteSOne] at h2
    obtain ⟨s0, e0, _⟩ := DataW.trod_int Tryz.underlying2 h0
    obtain ⟨a, len, cap, e1⟩ := slice_cs Tryz.underlying54 h1
    rw [e1] at h1
    obtain ⟨l, rfl, m3, s3, o3⟩ := open_headers h1
    obtain ⟨b, bn, bc, e2⟩ := slice_cs Tryz.underlying22 h2
    rw [e2] at h2
    obtain ⟨bl, rfl, m4, o4⟩ := open_bytes h2
    refine ⟨s0, a, cap, l, b, bc, bl, ?_, m3, s3, o3, m4, o4⟩
    have e : cs.toList = [.int .i64 s0, .slice a l.length cap, .slice b bl.length bc] := by
      simp only [Value.cells] at e0 e1 e2 hl
      rw [responseCells] at hl
      match hc : cs.toList, hl with
      | [c0, c1, c2], _ =>
        rw [hc] at e0 e1 e2
        simp only [List.drop_zero, List.take_succ_cons, List.take_zero, List.drop_succ_cons, List.cons.injEq, and_true] at e0 e1 e2
        rw [e0, e1, e2]
    congr 1
    exact Array.toList_inj.1 e
end Go.Proofs.YtojcjpdgjohldaaGreatDoor
/-
  As many variables are read as are named.
-/
namespace Go.Proofs.YtojcjpdgjohldaaGreatDoor
theorem trodVars_len {H : Type} {enc : TypeId × Value → H} {P : Program} {W : World} {sp : Nat → Bool} : ∀ {ns : List String} {gs : List (DataW H)} {ps : List MemPlace}, DataW.TrodVars enc P W sp ns gs ps → gs.length = ns.length
  | [], [], _, _ => rfl
  | [], _ :: _, _, h => h.elim
  | _ :: _, [], _, h => h.elim
  | n :: ns, d :: ds, ps, h => by
    obtain ⟨g, t, cs, fuel, p, q, h1, h2, h3, h4, hs, e⟩ := h
    simp [trodVars_len hs]
end Go.Proofs.YtojcjpdgjohldaaGreatDoor
