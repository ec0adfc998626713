/-
  Texts of one claim, one behind the other.
-/
import Derived.ChangeArms
import Derived.Deep.RegionHeld3
import Derived.JoinedCond
import Derived.MakeChecks
import Derived.ProofKit
import Derived.Test.YtdooopkpnanekaaGreatDoorRows
import Derived.Test.YtdooopkpnanekaaGreatDoorMgF
/-
  PurgeKey, PurgeTag, PurgeAll, by the program.
-/
namespace Go.Proofs.YtdooopkpnanekaaGreatDoor
open Go.ChangeShapes Go.WideShapes Go.ChangeAt Go.RowKit Go.Sort
set_option maxRecDepth 100000 in
set_option maxHeartbeats 16000000 in
theorem purge_any (w : World) (B0 g : Nat) (lb : Array Value) (p : Ent → Bool) (C : World → Prop) (bu gu : Int) (ta ka : Option Addr) (tc kc : Nat) (tl kl : List (Ent × EntR)) (hard : Bool) (PF : PredF B0 g lb p C) (hC : C w) (hB0 : B0 ≤ w.heap.size) (hset : SetIs w) (hl : tl.length ≤ 1048576) (hk : kl.length ≤ 1048576) (hto : ∀ q ∈ tl ++ kl, EntOk q.1) (hts : ∀ q ∈ tl ++ kl, ∀ t ∈ q.1.ts, t.size ≤ 1048576) (ht : EntsIn w ta tl) (hq : EntsIn w ka kl) :
    Calls Tryz.prog 113 #[.agg #[.int .i64 bu, .int .i64 gu, .slice ta tl.length tc, .slice ka kl.length kc], .bool hard, .func (.func g) #[] lb] w fun e w' => PurAns (purA bu gu (tl.map Prod.fst) (kl.map Prod.fst) p hard) w.heap.size e w' ∧ Below w.heap.size w w' := by
  have HF : Hid (∀ X, Below w.heap.size w X → Calls Tryz.prog 29 #[.agg #[.int .i64 bu, .int .i64 gu, .slice ta tl.length tc, .slice ka kl.length kc]] X fun r w' => r = .returned (.int .i64 (storeC bu gu (tl.map Prod.fst) (kl.map Prod.fst))) ∧ Below X.heap.size X w') := fun X hb => implSto_any X bu gu ta ka tc kc tl kl (hset.below hb) hl hk hto (ht.keep hb) (hq.keep hb)
  have HSO : Hid (∀ X, Below w.heap.size w X → Calls Tryz.prog 56 #[.agg #[.int .i64 bu, .int .i64 gu, .slice ta tl.length tc, .slice ka kl.length kc]] X fun e w' => (∃ a1 c1 d1 a2 c2 d2, e = .returned (.agg #[.slice a1 c1 d1, .slice a2 c2 d2]) ∧ TwoP w' X.heap.size (.slice a1 c1 d1) (.slice a2 c2 d2) (hdlsA ta tl) (hdlsA ka kl)) ∧ Below X.heap.size X w') := fun X hb => by
    refine (shelvesOf_any X bu gu ta ka tc kc tl kl hl hk (ht.keep hb) (hq.keep hb)).mono ?_
    rintro e w' ⟨⟨v1, v2, rfl, h2⟩, hb'⟩
    obtain ⟨a1, d1, rfl, _⟩ := h2.a.form
    obtain ⟨a2, d2, rfl, _⟩ := h2.b.form
    exact ⟨⟨a1, _, d1, a2, _, d2, rfl, h2⟩, hb'⟩
  have hOk : storeC bu gu (tl.map Prod.fst) (kl.map Prod.fst) = 0 → StoOk w ta ka tl kl := fun h0 => by
    have hx : ∀ h ∈ hdl2 ta ka tl kl, h.x ∈ (tl ++ kl).map Prod.fst := fun h hh => by rw [List.map_append, ← hdl2_x ta ka]; exact List.mem_map_of_mem hh
    refine ⟨ht, hq, by have := (storeC_zero h0).2.1; rw [List.length_map, List.length_map] at this; exact this, fun h hh => storeC_ent h0 h.x (by rw [← List.map_append]; exact hx h hh), fun h hh => ?_⟩
    obtain ⟨q, hq', e⟩ := List.mem_map.1 (hx h hh)
    rw [← e]
    exact hts q hq'
  have HKO : Hid (storeC bu gu (tl.map Prod.fst) (kl.map Prod.fst) = 0 → ∀ X v1 v2 base, Below w.heap.size w X → TwoP X base v1 v2 (hdlsA ta tl) (hdlsA ka kl) → Calls Tryz.prog 115 #[.agg #[v1, v2], .func (.func g) #[] lb] X fun e w' => (∃ a n k, e = .returned (.slice a n k) ∧ RowT w' X.heap.size (.slice a n k) (keysP p (tl.map Prod.fst ++ kl.map Prod.fst))) ∧ Below X.heap.size X w') := fun h0 X v1 v2 base hb h => by
    have ok := hOk h0
    have hn := ok.n
    refine (keysOf_any X v1 v2 base B0 g lb p C (hdlsA ta tl) (hdlsA ka kl) h PF (PF.keep _ _ hC (hb.mono hB0)) (by have := hb.size; omega) (by rw [hdlsA_len, hdlsA_len]; omega) (hdl2_there (ht.keep hb) (hq.keep hb)) (fun h hh => (entC_sizes (ok.z h hh)).2) (fun h hh => (entC_sizes (ok.z h hh)).1)).mono ?_
    rintro e w' ⟨⟨v, rfl, ho⟩, hb'⟩
    have ex : (hdlsA ta tl ++ hdlsA ka kl).map Hdl.x = tl.map Prod.fst ++ kl.map Prod.fst := hdl2_x ta ka tl kl
    rw [ex] at ho
    obtain ⟨va, vc, rfl, _⟩ := row_form ho
    exact ⟨⟨va, _, vc, rfl, ho⟩, hb'⟩
  have HTO : Hid (storeC bu gu (tl.map Prod.fst) (kl.map Prod.fst) = 0 → ∀ X, Below w.heap.size w X → Calls Tryz.prog 158 #[.agg #[.int .i64 bu, .int .i64 gu, .slice ta tl.length tc, .slice ka kl.length kc], .func (.func g) #[] lb] X fun e w' => (∃ a1 k1 n1 a2 k2 n2 m1 m2, e = .returned (.agg #[.int .i64 bu, .int .i64 gu, .slice a1 n1 k1, .slice a2 n2 k2]) ∧ m1.map Prod.fst = resE true p (tl.map Prod.fst) ∧ m2.map Prod.fst = resE true p (kl.map Prod.fst) ∧ StoLV w' X.heap.size (.slice a1 n1 k1) (.slice a2 n2 k2) m1 m2) ∧ Below X.heap.size X w') := fun h0 X hb => takenOut_any X B0 g lb p C bu gu ta ka tc kc tl kl ((hOk h0).keep hb) PF (PF.keep _ _ hC (hb.mono hB0)) (by have := hb.size; omega)
  have HTS : Hid (storeC bu gu (tl.map Prod.fst) (kl.map Prod.fst) = 0 → ∀ X, Below w.heap.size w X → Calls Tryz.prog 159 #[.agg #[.int .i64 bu, .int .i64 gu, .slice ta tl.length tc, .slice ka kl.length kc], .func (.func g) #[] lb] X fun e w' => (∃ a1 k1 n1 a2 k2 n2 m1 m2, e = .returned (.agg #[.int .i64 bu, .int .i64 gu, .slice a1 n1 k1, .slice a2 n2 k2]) ∧ m1.map Prod.fst = resE false p (tl.map Prod.fst) ∧ m2.map Prod.fst = resE false p (kl.map Prod.fst) ∧ StoLV w' X.heap.size (.slice a1 n1 k1) (.slice a2 n2 k2) m1 m2) ∧ Below X.heap.size X w') := fun h0 X hb => softened_any X B0 g lb p C bu gu ta ka tc kc tl kl ((hOk h0).keep hb) PF (PF.keep _ _ hC (hb.mono hB0)) (by have := hb.size; omega)
  obtain ⟨W, hW⟩ : ∃ W, W = (w.alloc (.cells #[.int .i64 bu, .int .i64 gu, .slice ta tl.length tc, .slice ka kl.length kc] 28)).alloc (.cells #[.int .i64 0, .int .i64 0, .int .i64 0, .slice none 0 0, .slice none 0 0, .slice none 0 0] 81) := ⟨_, rfl⟩
  have HW : Hid (W = (w.alloc (.cells #[.int .i64 bu, .int .i64 gu, .slice ta tl.length tc, .slice ka kl.length kc] 28)).alloc (.cells #[.int .i64 0, .int .i64 0, .int .i64 0, .slice none 0 0, .slice none 0 0, .slice none 0 0] 81)) := hW
  have K0 : Hid (Below w.heap.size w W ∧ S4 W w.heap.size (.int .i64 bu) (.int .i64 gu) (.slice ta tl.length tc) (.slice ka kl.length kc) ∧ S6 W (w.heap.size + 1) (.int .i64 0) (.int .i64 0) (.int .i64 0) (.slice none 0 0) (.slice none 0 0) (.slice none 0 0) ∧ w.heap.size + 2 ≤ W.heap.size) := by
    rw [hW]
    refine ⟨((Below.refl _ _).alloc (Nat.le_refl _) _).alloc (by simp) _, (S4.new w _ _ _ _ _).keep ((Below.refl _ _).alloc (Nat.le_refl _) _), ?_, by simp⟩
    have := S6.new (w.alloc (.cells #[.int .i64 bu, .int .i64 gu, .slice ta tl.length tc, .slice ka kl.length kc] 28)) (.int .i64 0) (.int .i64 0) (.int .i64 0) (.slice none 0 0) (.slice none 0 0) (.slice none 0 0) 81
    simpa using this
  obtain ⟨A, hA⟩ : ∃ A, purA bu gu (tl.map Prod.fst) (kl.map Prod.fst) p hard = A := ⟨_, rfl⟩
  rw [hA]
  unfold purA at hA
  have HA : Hid (_ = A) := hA
  have e0 := K0.out.2.1.c0
  have e1 := K0.out.2.1.c1
  have e2 := K0.out.2.1.c2
  have e3 := K0.out.2.1.c3
  rw [HW.out] at e0 e1 e2 e3
  clear hW hl hk hto hts ht hq hA hset PF hC hB0 hOk
  generalize storeC bu gu (tl.map Prod.fst) (kl.map Prod.fst) = sc at *
  generalize keysP p (tl.map Prod.fst ++ kl.map Prod.fst) = KS at *
  generalize tl.length = tn at *
  generalize kl.length = kn at *
  go_enter Tryz.func113, Tryz.ntmps113
  go_wp2_with fail
  rw [← HW.out]
  refine (HF.out _ K0.out.1).mono ?_
  rintro r0 w1 ⟨rfl, hb1⟩
  have K1 : Hid (Below w.heap.size w w1 ∧ S4 w1 w.heap.size (.int .i64 bu) (.int .i64 gu) (.slice ta tn tc) (.slice ka kn kc) ∧ S6 w1 (w.heap.size + 1) (.int .i64 0) (.int .i64 0) (.int .i64 0) (.slice none 0 0) (.slice none 0 0) (.slice none 0 0) ∧ w.heap.size + 2 ≤ w1.heap.size) := ⟨K0.out.1.trans (hb1.mono K0.out.1.size), K0.out.2.1.keep hb1, K0.out.2.2.1.keep hb1, by have := K0.out.2.2.2; have := hb1.size; omega⟩
  clear K0 HW hb1 HF e0 e1 e2 e3
  by_cases cs : sc = 0
  · subst cs
    have HAe : Hid (A = ⟨0, bu, gu, resE hard p (tl.map Prod.fst), resE hard p (kl.map Prod.fst), KS⟩) := by have := HA.out; simp only [ne_eq, not_true_eq_false, if_false] at this; exact this.symm
    have HK1 := HKO.out rfl
    have HT1 := HTO.out rfl
    have HS1 := HTS.out rfl
    clear HA HKO HTO HTS
    have e0 := K1.out.2.1.c0
    have e1 := K1.out.2.1.c1
    have e2 := K1.out.2.1.c2
    have e3 := K1.out.2.1.c3
    go_wp2_with fail
    refine (HSO.out _ K1.out.1).mono ?_
    rintro r0 w2 ⟨⟨a1, c1, d1, a2, c2, d2, rfl, tp⟩, hb2⟩
    have CK := HK1 w2 _ _ _ (K1.out.1.trans (hb2.mono K1.out.1.size)) tp
    have K2 : Hid (Below w.heap.size w w2 ∧ S4 w2 w.heap.size (.int .i64 bu) (.int .i64 gu) (.slice ta tn tc) (.slice ka kn kc) ∧ S6 w2 (w.heap.size + 1) (.int .i64 0) (.int .i64 0) (.int .i64 0) (.slice none 0 0) (.slice none 0 0) (.slice none 0 0) ∧ w.heap.size + 2 ≤ w2.heap.size) := ⟨K1.out.1.trans (hb2.mono K1.out.1.size), K1.out.2.1.keep hb2, K1.out.2.2.1.keep hb2, by have := K1.out.2.2.2; have := hb2.size; omega⟩
    clear e0 e1 e2 e3 hb2 tp K1 HSO HK1
    go_wp2_with fail
    refine CK.mono ?_
    rintro r0 w3 ⟨⟨a, n, k, rfl, ho⟩, hb3⟩
    have K3 : Hid (Below w.heap.size w w3 ∧ S4 w3 w.heap.size (.int .i64 bu) (.int .i64 gu) (.slice ta tn tc) (.slice ka kn kc) ∧ S6 w3 (w.heap.size + 1) (.int .i64 0) (.int .i64 0) (.int .i64 0) (.slice none 0 0) (.slice none 0 0) (.slice none 0 0) ∧ w.heap.size + 2 ≤ w2.heap.size ∧ w2.heap.size ≤ w3.heap.size) := ⟨K2.out.1.trans (hb3.mono K2.out.1.size), K2.out.2.1.keep hb3, K2.out.2.2.1.keep hb3, K2.out.2.2.2, hb3.size⟩
    have HO : Hid (RowT w3 w2.heap.size (.slice a n k) KS) := ho
    have e0 := K3.out.2.1.c0
    have e1 := K3.out.2.1.c1
    have e2 := K3.out.2.1.c2
    have e3 := K3.out.2.1.c3
    clear ho hb3 K2 CK
    have FIN : Hid (∀ X a1 k1 n1 a2 k2 n2 m1 m2, StoLV X w3.heap.size (.slice a1 n1 k1) (.slice a2 n2 k2) m1 m2 → Below w3.heap.size w3 X → m1.map Prod.fst = resE hard p (tl.map Prod.fst) → m2.map Prod.fst = resE hard p (kl.map Prod.fst) → S6 X (w.heap.size + 1) (.int .i64 0) (.int .i64 0) (.int .i64 0) (.slice none 0 0) (.slice none 0 0) (.slice none 0 0) ∧ (∀ u0 u1 u2 u3 u4 u5, PurAns A w.heap.size (.returned (.agg #[.int .i64 0, .int .i64 bu, .int .i64 gu, .slice a1 n1 k1, .slice a2 n2 k2, .slice a n k])) ((((((X.setCell ⟨w.heap.size + 1, 0, none⟩ u0).setCell ⟨w.heap.size + 1, 1, none⟩ u1).setCell ⟨w.heap.size + 1, 2, none⟩ u2).setCell ⟨w.heap.size + 1, 3, none⟩ u3).setCell ⟨w.heap.size + 1, 4, none⟩ u4).setCell ⟨w.heap.size + 1, 5, none⟩ u5) ∧ Below w.heap.size w ((((((X.setCell ⟨w.heap.size + 1, 0, none⟩ u0).setCell ⟨w.heap.size + 1, 1, none⟩ u1).setCell ⟨w.heap.size + 1, 2, none⟩ u2).setCell ⟨w.heap.size + 1, 3, none⟩ u3).setCell ⟨w.heap.size + 1, 4, none⟩ u4).setCell ⟨w.heap.size + 1, 5, none⟩ u5))) := fun X a1 k1 n1 a2 k2 n2 m1 m2 o hX x1 x2 => by
      obtain ⟨q1, _, q3, q4, q5⟩ := K3.out
      refine ⟨q3.keep hX, fun u0 u1 u2 u3 u4 u5 => ?_⟩
      have bX := q1.trans (hX.mono q1.size)
      have tl0 := HO.out.lv.1
      have hQ : QSto X w2.heap.size X.heap.size ⟨⟨a1, k1, n1, a2, k2, n2⟩, a, k, n⟩ (resE hard p (tl.map Prod.fst)) (resE hard p (kl.map Prod.fst)) KS := QSto.mk (r := ⟨⟨a1, k1, n1, a2, k2, n2⟩, a, k, n⟩) x1 x2 (o.lower q5) (tl0.below hX) (fun q e => ⟨HO.out.lv.2 q e, fun hm => by have := o.t.ge hm; have := tl0.block_lt q e; omega, fun hm => by have := o.k.ge hm; have := tl0.block_lt q e; omega⟩)
      refine ⟨PurAns.of ⟨⟨⟨a1, k1, n1, a2, k2, n2⟩, a, k, n⟩, rfl, QSto.lower (PurAns.off6 (A := ⟨0, bu, gu, resE hard p (tl.map Prod.fst), resE hard p (kl.map Prod.fst), KS⟩) hQ (b := w.heap.size + 1) (by omega) u0 u1 u2 u3 u4 u5) (by omega)⟩ HAe.out, ?_⟩
      exact (((((bX.setCell (by simp) _).setCell (by simp) _).setCell (by simp) _).setCell (by simp) _).setCell (by simp) _).setCell (by simp) _
    cases hard
    · go_wp2_with fail
      refine (HS1 w3 K3.out.1).mono ?_
      rintro r0 w4 ⟨⟨b1, k1, n1, b2, k2, n2, m1, m2, rfl, x1, x2, o⟩, hb4⟩
      obtain ⟨s6, fin⟩ := FIN.out w4 b1 k1 n1 b2 k2 n2 m1 m2 o hb4 x1 x2
      have HX : Hid _ := fin
      have z0 := s6.c0
      have z1 := s6.c1
      have z2 := s6.c2
      have z3 := s6.c3
      have z4 := s6.c4
      have z5 := s6.c5
      have zf0 := s6.fr 0
      have zf1 := s6.fr 1
      have zf2 := s6.fr 2
      have zf3 := s6.fr 3
      have zf4 := s6.fr 4
      have zf5 := s6.fr 5
      clear s6 fin o x1 x2 hb4 FIN HS1 HT1 K3 HO HAe e0 e1 e2 e3
      go_wp2_with fail
      refine bodyPost_ret (v := .agg #[.int .i64 0, .int .i64 bu, .int .i64 gu, .slice b1 n1 k1, .slice b2 n2 k2, .slice a n k]) (by simp [results, Tryz.results113, go_sem, z0, z1, z2, z3, z4, z5]) rfl ?_
      exact HX.out _ _ _ _ _ _
    · go_wp2_with fail
      refine (HT1 w3 K3.out.1).mono ?_
      rintro r0 w4 ⟨⟨b1, k1, n1, b2, k2, n2, m1, m2, rfl, x1, x2, o⟩, hb4⟩
      obtain ⟨s6, fin⟩ := FIN.out w4 b1 k1 n1 b2 k2 n2 m1 m2 o hb4 x1 x2
      have HX : Hid _ := fin
      have z0 := s6.c0
      have z1 := s6.c1
      have z2 := s6.c2
      have z3 := s6.c3
      have z4 := s6.c4
      have z5 := s6.c5
      have zf0 := s6.fr 0
      have zf1 := s6.fr 1
      have zf2 := s6.fr 2
      have zf3 := s6.fr 3
      have zf4 := s6.fr 4
      have zf5 := s6.fr 5
      clear s6 fin o x1 x2 hb4 FIN HS1 HT1 K3 HO HAe e0 e1 e2 e3
      go_wp2_with fail
      refine bodyPost_ret (v := .agg #[.int .i64 0, .int .i64 bu, .int .i64 gu, .slice b1 n1 k1, .slice b2 n2 k2, .slice a n k]) (by simp [results, Tryz.results113, go_sem, z0, z1, z2, z3, z4, z5]) rfl ?_
      exact HX.out _ _ _ _ _ _
  · have HAe : Hid (A = badQ sc) := by have := HA.out; rw [if_pos cs] at this; exact this.symm
    have s6 := K1.out.2.2.1
    have z0 := s6.c0
    have z1 := s6.c1
    have z2 := s6.c2
    have z3 := s6.c3
    have z4 := s6.c4
    have z5 := s6.c5
    have zf0 := s6.fr 0
    have zf1 := s6.fr 1
    have zf2 := s6.fr 2
    have zf3 := s6.fr 3
    have zf4 := s6.fr 4
    have zf5 := s6.fr 5
    have HB : Hid (Below w.heap.size w w1) := K1.out.1
    clear HA K1 HKO HTO HTS HSO s6
    go_wp2_with fail
    refine bodyPost_ret (v := .agg #[.int .i64 sc, .int .i64 0, .int .i64 0, .slice none 0 0, .slice none 0 0, .slice none 0 0]) (by simp [results, Tryz.results113, go_sem, z0, z1, z2, z3, z4, z5]) rfl ?_
    exact ⟨(PurAns.bad _ _ _).of HAe.out, (((((HB.out.setCell (by simp) _).setCell (by simp) _).setCell (by simp) _).setCell (by simp) _).setCell (by simp) _).setCell (by simp) _⟩
set_option maxRecDepth 100000 in
set_option maxHeartbeats 8000000 in
theorem implPurgeKey_any (w : World) (bu gu : Int) (ta ka : Option Addr) (tc kc : Nat) (tl kl : List (Ent × EntR)) (key : ByteArray) (hard : Bool) (hset : SetIs w) (hl : tl.length ≤ 1048576) (hk : kl.length ≤ 1048576) (hto : ∀ q ∈ tl ++ kl, EntOk q.1) (hts : ∀ q ∈ tl ++ kl, ∀ t ∈ q.1.ts, t.size ≤ 1048576) (ht : EntsIn w ta tl) (hq : EntsIn w ka kl) :
    Calls Tryz.prog 50 #[.agg #[.int .i64 bu, .int .i64 gu, .slice ta tl.length tc, .slice ka kl.length kc], .string key, .bool hard] w fun e w' => PurAns (purA bu gu (tl.map Prod.fst) (kl.map Prod.fst) (isKey key) hard) w.heap.size e w' ∧ Below w.heap.size w w' := by
  obtain ⟨A, hA⟩ : ∃ A, purA bu gu (tl.map Prod.fst) (kl.map Prod.fst) (isKey key) hard = A := ⟨_, rfl⟩
  rw [hA]
  obtain ⟨W, hW⟩ : ∃ W, W = (w.alloc (.cells #[.int .i64 bu, .int .i64 gu, .slice ta tl.length tc, .slice ka kl.length kc] 28)).alloc (.cells #[.int .i64 0, .int .i64 0, .int .i64 0, .slice none 0 0, .slice none 0 0, .slice none 0 0] 81) := ⟨_, rfl⟩
  have HW : Hid (W = (w.alloc (.cells #[.int .i64 bu, .int .i64 gu, .slice ta tl.length tc, .slice ka kl.length kc] 28)).alloc (.cells #[.int .i64 0, .int .i64 0, .int .i64 0, .slice none 0 0, .slice none 0 0, .slice none 0 0] 81)) := hW
  have K0 : Hid (Below w.heap.size w W ∧ S4 W w.heap.size (.int .i64 bu) (.int .i64 gu) (.slice ta tl.length tc) (.slice ka kl.length kc) ∧ S6 W (w.heap.size + 1) (.int .i64 0) (.int .i64 0) (.int .i64 0) (.slice none 0 0) (.slice none 0 0) (.slice none 0 0) ∧ w.heap.size + 2 ≤ W.heap.size) := by
    rw [hW]
    refine ⟨((Below.refl _ _).alloc (Nat.le_refl _) _).alloc (by simp) _, (S4.new w _ _ _ _ _).keep ((Below.refl _ _).alloc (Nat.le_refl _) _), ?_, by simp⟩
    have := S6.new (w.alloc (.cells #[.int .i64 bu, .int .i64 gu, .slice ta tl.length tc, .slice ka kl.length kc] 28)) (.int .i64 0) (.int .i64 0) (.int .i64 0) (.slice none 0 0) (.slice none 0 0) (.slice none 0 0) 81
    simpa using this
  have HP : Hid (∀ X, Below w.heap.size w X → ∀ K : Nat, K < X.heap.size → X.cell? ⟨K, 0, none⟩ = some (.string key) → Calls Tryz.prog 113 #[.agg #[.int .i64 bu, .int .i64 gu, .slice ta tl.length tc, .slice ka kl.length kc], .bool hard, .func (.func 164) #[] #[.pointer (some ⟨K, 0, none⟩)]] X fun e w' => (∃ r : QR, e = .returned (.agg #[.int .i64 A.c, .int .i64 A.bu, .int .i64 A.gu, .slice r.s.a1 r.s.n1 r.s.k1, .slice r.s.a2 r.s.n2 r.s.k2, .slice r.a3 r.n3 r.k3]) ∧ QSto w' X.heap.size w'.heap.size r A.t A.k A.g) ∧ Below X.heap.size X w') := fun X hX K hK hc => by
    rw [← hA]
    exact purge_any X X.heap.size _ _ (isKey key) _ bu gu ta ka tc kc tl kl hard (predKey X.heap.size K key hK) hc (Nat.le_refl _) (hset.below hX) hl hk hto hts (ht.keep hX) (hq.keep hX)
  have e0 := K0.out.2.1.c0
  have e1 := K0.out.2.1.c1
  have e2 := K0.out.2.1.c2
  have e3 := K0.out.2.1.c3
  rw [HW.out] at e0 e1 e2 e3
  clear hA hW hset hl hk hto hts ht hq
  obtain ⟨c, bo, go, T1, T2, G⟩ := A
  simp only at HP
  generalize tl.length = tn at *
  generalize kl.length = kn at *
  go_enter Tryz.func50, Tryz.ntmps50
  go_wp2_with fail
  rw [← HW.out]
  clear HW
  have HKW : Hid (∀ X, Below W.heap.size W X → Below w.heap.size w X ∧ S4 X w.heap.size (.int .i64 bu) (.int .i64 gu) (.slice ta tn tc) (.slice ka kn kc) ∧ S6 X (w.heap.size + 1) (.int .i64 0) (.int .i64 0) (.int .i64 0) (.slice none 0 0) (.slice none 0 0) (.slice none 0 0)) := fun X hX => ⟨K0.out.1.trans (hX.mono K0.out.1.size), K0.out.2.1.keep hX, K0.out.2.2.1.keep hX⟩
  have HKS : Hid (∀ X, Below W.heap.size W X → (X.cell? ⟨w.heap.size, 0, none⟩ = some (.int .i64 bu) ∧ X.cell? ⟨w.heap.size, 1, none⟩ = some (.int .i64 gu) ∧ X.cell? ⟨w.heap.size, 2, none⟩ = some (.slice ta tn tc) ∧ X.cell? ⟨w.heap.size, 3, none⟩ = some (.slice ka kn kc))) := fun X hX => ⟨(HKW.out X hX).2.1.c0, (HKW.out X hX).2.1.c1, (HKW.out X hX).2.1.c2, (HKW.out X hX).2.1.c3⟩
  have HKT : Hid (∀ X u0 u1 u2 u3 u4 u5, Below W.heap.size W X → (((((((X.setCell ⟨w.heap.size + 1, 0, none⟩ u0).setCell ⟨w.heap.size + 1, 1, none⟩ u1).setCell ⟨w.heap.size + 1, 2, none⟩ u2).setCell ⟨w.heap.size + 1, 3, none⟩ u3).setCell ⟨w.heap.size + 1, 4, none⟩ u4).setCell ⟨w.heap.size + 1, 5, none⟩ u5).cell? ⟨w.heap.size, 0, none⟩ = some (.int .i64 bu) ∧ ((((((X.setCell ⟨w.heap.size + 1, 0, none⟩ u0).setCell ⟨w.heap.size + 1, 1, none⟩ u1).setCell ⟨w.heap.size + 1, 2, none⟩ u2).setCell ⟨w.heap.size + 1, 3, none⟩ u3).setCell ⟨w.heap.size + 1, 4, none⟩ u4).setCell ⟨w.heap.size + 1, 5, none⟩ u5).cell? ⟨w.heap.size, 1, none⟩ = some (.int .i64 gu) ∧ ((((((X.setCell ⟨w.heap.size + 1, 0, none⟩ u0).setCell ⟨w.heap.size + 1, 1, none⟩ u1).setCell ⟨w.heap.size + 1, 2, none⟩ u2).setCell ⟨w.heap.size + 1, 3, none⟩ u3).setCell ⟨w.heap.size + 1, 4, none⟩ u4).setCell ⟨w.heap.size + 1, 5, none⟩ u5).cell? ⟨w.heap.size, 2, none⟩ = some (.slice ta tn tc) ∧ ((((((X.setCell ⟨w.heap.size + 1, 0, none⟩ u0).setCell ⟨w.heap.size + 1, 1, none⟩ u1).setCell ⟨w.heap.size + 1, 2, none⟩ u2).setCell ⟨w.heap.size + 1, 3, none⟩ u3).setCell ⟨w.heap.size + 1, 4, none⟩ u4).setCell ⟨w.heap.size + 1, 5, none⟩ u5).cell? ⟨w.heap.size, 3, none⟩ = some (.slice ka kn kc))) := fun X u0 u1 u2 u3 u4 u5 hX => by
    have s := ((((((HKW.out X hX).2.1.off (B := w.heap.size + 1) (i := 0) (x := u0) (by omega)).off (B := w.heap.size + 1) (i := 1) (x := u1) (by omega)).off (B := w.heap.size + 1) (i := 2) (x := u2) (by omega)).off (B := w.heap.size + 1) (i := 3) (x := u3) (by omega)).off (B := w.heap.size + 1) (i := 4) (x := u4) (by omega)).off (B := w.heap.size + 1) (i := 5) (x := u5) (by omega)
    exact ⟨s.c0, s.c1, s.c2, s.c3⟩
  have B0' : Hid (Below W.heap.size W W.drew) := (Below.refl _ _).drew
  go_region_held3 (fun X => X.cell? ⟨w.heap.size, 0, none⟩ = some (.int .i64 bu) ∧ X.cell? ⟨w.heap.size, 1, none⟩ = some (.int .i64 gu) ∧ X.cell? ⟨w.heap.size, 2, none⟩ = some (.slice ta tn tc) ∧ X.cell? ⟨w.heap.size, 3, none⟩ = some (.slice ka kn kc))
    (first | ((with_reducible refine HKS.out _ ?_); (with_reducible exact BB.out)) | ((with_reducible refine HKS.out _ ?_); (with_reducible exact BA.out)) | ((with_reducible refine HKS.out _ ?_); (with_reducible exact B0'.out)) | ((with_reducible refine HKT.out _ _ _ _ _ _ _ ?_); (with_reducible exact BB.out)))
    (first
    | (go_at_call 113; (with_reducible refine (HP.out wa ?_ _ ?_ ?_).mono ?_); (exact (HKW.out _ BA.out).1); (exact HC.out.2); (exact HC.out.1); rintro r0 w3 ⟨⟨r, rfl, hQ⟩, hb3⟩; have BB : Hid (Below W.heap.size W w3) := BA.out.trans (hb3.mono BA.out.size); have HQ : Hid (QSto w3 wa.heap.size w3.heap.size r T1 T2 G ∧ w.heap.size + 1 < wa.heap.size ∧ Below w.heap.size w w3) := ⟨hQ, by have := BA.out.size; have := K0.out.2.2.2; omega, (HKW.out _ BB.out).1⟩; have s6 := (HKW.out _ BB.out).2.2; have z0 := s6.c0; have z1 := s6.c1; have z2 := s6.c2; have z3 := s6.c3; have z4 := s6.c4; have z5 := s6.c5; have zf0 := s6.fr 0; have zf1 := s6.fr 1; have zf2 := s6.fr 2; have zf3 := s6.fr 3; have zf4 := s6.fr 4; have zf5 := s6.fr 5; clear s6 hQ hb3)
    | (go_at_call 119; (with_reducible refine (hasKey_any W.drew key).mono ?_); rintro r0 wa ⟨rfl, hc2, hl2, hb2⟩; have BA : Hid (Below W.heap.size W wa) := B0'.out.trans (hb2.mono B0'.out.size); have HC : Hid (wa.cell? ⟨W.drew.heap.size, 0, none⟩ = some (.string key) ∧ W.drew.heap.size < wa.heap.size) := ⟨hc2, hl2⟩; clear hc2 hl2 hb2))
  all_goals
    go_wp2_with fail
    refine bodyPost_ret (v := .agg #[.int .i64 c, .int .i64 bo, .int .i64 go, .slice r.s.a1 r.s.n1 r.s.k1, .slice r.s.a2 r.s.n2 r.s.k2, .slice r.a3 r.n3 r.k3]) (by simp [results, Tryz.results50, go_sem, z0, z1, z2, z3, z4, z5]) rfl ?_
    refine ⟨⟨r, rfl, QSto.lower (PurAns.off6 (A := ⟨c, bo, go, T1, T2, G⟩) HQ.out.1 HQ.out.2.1 _ _ _ _ _ _) (by have := HQ.out.2.1; omega)⟩, ?_⟩
    exact (((((HQ.out.2.2.setCell (by simp) _).setCell (by simp) _).setCell (by simp) _).setCell (by simp) _).setCell (by simp) _).setCell (by simp) _
set_option maxRecDepth 100000 in
set_option maxHeartbeats 8000000 in
theorem implPurgeTag_any (w : World) (bu gu : Int) (ta ka : Option Addr) (tc kc : Nat) (tl kl : List (Ent × EntR)) (tag : ByteArray) (hard : Bool) (hset : SetIs w) (hl : tl.length ≤ 1048576) (hk : kl.length ≤ 1048576) (hto : ∀ q ∈ tl ++ kl, EntOk q.1) (hts : ∀ q ∈ tl ++ kl, ∀ t ∈ q.1.ts, t.size ≤ 1048576) (ht : EntsIn w ta tl) (hq : EntsIn w ka kl) :
    Calls Tryz.prog 45 #[.agg #[.int .i64 bu, .int .i64 gu, .slice ta tl.length tc, .slice ka kl.length kc], .string tag, .bool hard] w fun e w' => PurAns (purA bu gu (tl.map Prod.fst) (kl.map Prod.fst) (tagP tag) hard) w.heap.size e w' ∧ Below w.heap.size w w' := by
  obtain ⟨A, hA⟩ : ∃ A, purA bu gu (tl.map Prod.fst) (kl.map Prod.fst) (tagP tag) hard = A := ⟨_, rfl⟩
  rw [hA]
  obtain ⟨W, hW⟩ : ∃ W, W = (w.alloc (.cells #[.int .i64 bu, .int .i64 gu, .slice ta tl.length tc, .slice ka kl.length kc] 28)).alloc (.cells #[.int .i64 0, .int .i64 0, .int .i64 0, .slice none 0 0, .slice none 0 0, .slice none 0 0] 81) := ⟨_, rfl⟩
  have HW : Hid (W = (w.alloc (.cells #[.int .i64 bu, .int .i64 gu, .slice ta tl.length tc, .slice ka kl.length kc] 28)).alloc (.cells #[.int .i64 0, .int .i64 0, .int .i64 0, .slice none 0 0, .slice none 0 0, .slice none 0 0] 81)) := hW
  have K0 : Hid (Below w.heap.size w W ∧ S4 W w.heap.size (.int .i64 bu) (.int .i64 gu) (.slice ta tl.length tc) (.slice ka kl.length kc) ∧ S6 W (w.heap.size + 1) (.int .i64 0) (.int .i64 0) (.int .i64 0) (.slice none 0 0) (.slice none 0 0) (.slice none 0 0) ∧ w.heap.size + 2 ≤ W.heap.size) := by
    rw [hW]
    refine ⟨((Below.refl _ _).alloc (Nat.le_refl _) _).alloc (by simp) _, (S4.new w _ _ _ _ _).keep ((Below.refl _ _).alloc (Nat.le_refl _) _), ?_, by simp⟩
    have := S6.new (w.alloc (.cells #[.int .i64 bu, .int .i64 gu, .slice ta tl.length tc, .slice ka kl.length kc] 28)) (.int .i64 0) (.int .i64 0) (.int .i64 0) (.slice none 0 0) (.slice none 0 0) (.slice none 0 0) 81
    simpa using this
  have HP : Hid (∀ X, Below w.heap.size w X → ∀ K : Nat, K < X.heap.size → X.cell? ⟨K, 0, none⟩ = some (.string tag) → Calls Tryz.prog 113 #[.agg #[.int .i64 bu, .int .i64 gu, .slice ta tl.length tc, .slice ka kl.length kc], .bool hard, .func (.func 160) #[] #[.pointer (some ⟨K, 0, none⟩)]] X fun e w' => (∃ r : QR, e = .returned (.agg #[.int .i64 A.c, .int .i64 A.bu, .int .i64 A.gu, .slice r.s.a1 r.s.n1 r.s.k1, .slice r.s.a2 r.s.n2 r.s.k2, .slice r.a3 r.n3 r.k3]) ∧ QSto w' X.heap.size w'.heap.size r A.t A.k A.g) ∧ Below X.heap.size X w') := fun X hX K hK hc => by
    rw [← hA]
    exact purge_any X X.heap.size _ _ (tagP tag) _ bu gu ta ka tc kc tl kl hard (predTag X.heap.size K tag hK) hc (Nat.le_refl _) (hset.below hX) hl hk hto hts (ht.keep hX) (hq.keep hX)
  have e0 := K0.out.2.1.c0
  have e1 := K0.out.2.1.c1
  have e2 := K0.out.2.1.c2
  have e3 := K0.out.2.1.c3
  rw [HW.out] at e0 e1 e2 e3
  clear hA hW hset hl hk hto hts ht hq
  obtain ⟨c, bo, go, T1, T2, G⟩ := A
  simp only at HP
  generalize tl.length = tn at *
  generalize kl.length = kn at *
  go_enter Tryz.func45, Tryz.ntmps45
  go_wp2_with fail
  rw [← HW.out]
  clear HW
  have HKW : Hid (∀ X, Below W.heap.size W X → Below w.heap.size w X ∧ S4 X w.heap.size (.int .i64 bu) (.int .i64 gu) (.slice ta tn tc) (.slice ka kn kc) ∧ S6 X (w.heap.size + 1) (.int .i64 0) (.int .i64 0) (.int .i64 0) (.slice none 0 0) (.slice none 0 0) (.slice none 0 0)) := fun X hX => ⟨K0.out.1.trans (hX.mono K0.out.1.size), K0.out.2.1.keep hX, K0.out.2.2.1.keep hX⟩
  have HKS : Hid (∀ X, Below W.heap.size W X → (X.cell? ⟨w.heap.size, 0, none⟩ = some (.int .i64 bu) ∧ X.cell? ⟨w.heap.size, 1, none⟩ = some (.int .i64 gu) ∧ X.cell? ⟨w.heap.size, 2, none⟩ = some (.slice ta tn tc) ∧ X.cell? ⟨w.heap.size, 3, none⟩ = some (.slice ka kn kc))) := fun X hX => ⟨(HKW.out X hX).2.1.c0, (HKW.out X hX).2.1.c1, (HKW.out X hX).2.1.c2, (HKW.out X hX).2.1.c3⟩
  have HKT : Hid (∀ X u0 u1 u2 u3 u4 u5, Below W.heap.size W X → (((((((X.setCell ⟨w.heap.size + 1, 0, none⟩ u0).setCell ⟨w.heap.size + 1, 1, none⟩ u1).setCell ⟨w.heap.size + 1, 2, none⟩ u2).setCell ⟨w.heap.size + 1, 3, none⟩ u3).setCell ⟨w.heap.size + 1, 4, none⟩ u4).setCell ⟨w.heap.size + 1, 5, none⟩ u5).cell? ⟨w.heap.size, 0, none⟩ = some (.int .i64 bu) ∧ ((((((X.setCell ⟨w.heap.size + 1, 0, none⟩ u0).setCell ⟨w.heap.size + 1, 1, none⟩ u1).setCell ⟨w.heap.size + 1, 2, none⟩ u2).setCell ⟨w.heap.size + 1, 3, none⟩ u3).setCell ⟨w.heap.size + 1, 4, none⟩ u4).setCell ⟨w.heap.size + 1, 5, none⟩ u5).cell? ⟨w.heap.size, 1, none⟩ = some (.int .i64 gu) ∧ ((((((X.setCell ⟨w.heap.size + 1, 0, none⟩ u0).setCell ⟨w.heap.size + 1, 1, none⟩ u1).setCell ⟨w.heap.size + 1, 2, none⟩ u2).setCell ⟨w.heap.size + 1, 3, none⟩ u3).setCell ⟨w.heap.size + 1, 4, none⟩ u4).setCell ⟨w.heap.size + 1, 5, none⟩ u5).cell? ⟨w.heap.size, 2, none⟩ = some (.slice ta tn tc) ∧ ((((((X.setCell ⟨w.heap.size + 1, 0, none⟩ u0).setCell ⟨w.heap.size + 1, 1, none⟩ u1).setCell ⟨w.heap.size + 1, 2, none⟩ u2).setCell ⟨w.heap.size + 1, 3, none⟩ u3).setCell ⟨w.heap.size + 1, 4, none⟩ u4).setCell ⟨w.heap.size + 1, 5, none⟩ u5).cell? ⟨w.heap.size, 3, none⟩ = some (.slice ka kn kc))) := fun X u0 u1 u2 u3 u4 u5 hX => by
    have s := ((((((HKW.out X hX).2.1.off (B := w.heap.size + 1) (i := 0) (x := u0) (by omega)).off (B := w.heap.size + 1) (i := 1) (x := u1) (by omega)).off (B := w.heap.size + 1) (i := 2) (x := u2) (by omega)).off (B := w.heap.size + 1) (i := 3) (x := u3) (by omega)).off (B := w.heap.size + 1) (i := 4) (x := u4) (by omega)).off (B := w.heap.size + 1) (i := 5) (x := u5) (by omega)
    exact ⟨s.c0, s.c1, s.c2, s.c3⟩
  have B0' : Hid (Below W.heap.size W W.drew) := (Below.refl _ _).drew
  go_region_held3 (fun X => X.cell? ⟨w.heap.size, 0, none⟩ = some (.int .i64 bu) ∧ X.cell? ⟨w.heap.size, 1, none⟩ = some (.int .i64 gu) ∧ X.cell? ⟨w.heap.size, 2, none⟩ = some (.slice ta tn tc) ∧ X.cell? ⟨w.heap.size, 3, none⟩ = some (.slice ka kn kc))
    (first | ((with_reducible refine HKS.out _ ?_); (with_reducible exact BB.out)) | ((with_reducible refine HKS.out _ ?_); (with_reducible exact BA.out)) | ((with_reducible refine HKS.out _ ?_); (with_reducible exact B0'.out)) | ((with_reducible refine HKT.out _ _ _ _ _ _ _ ?_); (with_reducible exact BB.out)))
    (first
    | (go_at_call 113; (with_reducible refine (HP.out wa ?_ _ ?_ ?_).mono ?_); (exact (HKW.out _ BA.out).1); (exact HC.out.2); (exact HC.out.1); rintro r0 w3 ⟨⟨r, rfl, hQ⟩, hb3⟩; have BB : Hid (Below W.heap.size W w3) := BA.out.trans (hb3.mono BA.out.size); have HQ : Hid (QSto w3 wa.heap.size w3.heap.size r T1 T2 G ∧ w.heap.size + 1 < wa.heap.size ∧ Below w.heap.size w w3) := ⟨hQ, by have := BA.out.size; have := K0.out.2.2.2; omega, (HKW.out _ BB.out).1⟩; have s6 := (HKW.out _ BB.out).2.2; have z0 := s6.c0; have z1 := s6.c1; have z2 := s6.c2; have z3 := s6.c3; have z4 := s6.c4; have z5 := s6.c5; have zf0 := s6.fr 0; have zf1 := s6.fr 1; have zf2 := s6.fr 2; have zf3 := s6.fr 3; have zf4 := s6.fr 4; have zf5 := s6.fr 5; clear s6 hQ hb3)
    | (go_at_call 114; (with_reducible refine (hasTag_any W.drew tag).mono ?_); rintro r0 wa ⟨rfl, hc2, hl2, hb2⟩; have BA : Hid (Below W.heap.size W wa) := B0'.out.trans (hb2.mono B0'.out.size); have HC : Hid (wa.cell? ⟨W.drew.heap.size, 0, none⟩ = some (.string tag) ∧ W.drew.heap.size < wa.heap.size) := ⟨hc2, hl2⟩; clear hc2 hl2 hb2))
  all_goals
    go_wp2_with fail
    refine bodyPost_ret (v := .agg #[.int .i64 c, .int .i64 bo, .int .i64 go, .slice r.s.a1 r.s.n1 r.s.k1, .slice r.s.a2 r.s.n2 r.s.k2, .slice r.a3 r.n3 r.k3]) (by simp [results, Tryz.results45, go_sem, z0, z1, z2, z3, z4, z5]) rfl ?_
    refine ⟨⟨r, rfl, QSto.lower (PurAns.off6 (A := ⟨c, bo, go, T1, T2, G⟩) HQ.out.1 HQ.out.2.1 _ _ _ _ _ _) (by have := HQ.out.2.1; omega)⟩, ?_⟩
    exact (((((HQ.out.2.2.setCell (by simp) _).setCell (by simp) _).setCell (by simp) _).setCell (by simp) _).setCell (by simp) _).setCell (by simp) _
set_option maxRecDepth 100000 in
set_option maxHeartbeats 8000000 in
theorem implPurgeAll_any (w : World) (bu gu : Int) (ta ka : Option Addr) (tc kc : Nat) (tl kl : List (Ent × EntR)) (hard : Bool) (hset : SetIs w) (hl : tl.length ≤ 1048576) (hk : kl.length ≤ 1048576) (hto : ∀ q ∈ tl ++ kl, EntOk q.1) (hts : ∀ q ∈ tl ++ kl, ∀ t ∈ q.1.ts, t.size ≤ 1048576) (ht : EntsIn w ta tl) (hq : EntsIn w ka kl) :
    Calls Tryz.prog 47 #[.agg #[.int .i64 bu, .int .i64 gu, .slice ta tl.length tc, .slice ka kl.length kc], .bool hard] w fun e w' => PurAns (purA bu gu (tl.map Prod.fst) (kl.map Prod.fst) anyP hard) w.heap.size e w' ∧ Below w.heap.size w w' := by
  obtain ⟨A, hA⟩ : ∃ A, purA bu gu (tl.map Prod.fst) (kl.map Prod.fst) anyP hard = A := ⟨_, rfl⟩
  rw [hA]
  obtain ⟨W, hW⟩ : ∃ W, W = (w.alloc (.cells #[.int .i64 bu, .int .i64 gu, .slice ta tl.length tc, .slice ka kl.length kc] 28)).alloc (.cells #[.int .i64 0, .int .i64 0, .int .i64 0, .slice none 0 0, .slice none 0 0, .slice none 0 0] 81) := ⟨_, rfl⟩
  have HW : Hid (W = (w.alloc (.cells #[.int .i64 bu, .int .i64 gu, .slice ta tl.length tc, .slice ka kl.length kc] 28)).alloc (.cells #[.int .i64 0, .int .i64 0, .int .i64 0, .slice none 0 0, .slice none 0 0, .slice none 0 0] 81)) := hW
  have K0 : Hid (Below w.heap.size w W ∧ S4 W w.heap.size (.int .i64 bu) (.int .i64 gu) (.slice ta tl.length tc) (.slice ka kl.length kc) ∧ S6 W (w.heap.size + 1) (.int .i64 0) (.int .i64 0) (.int .i64 0) (.slice none 0 0) (.slice none 0 0) (.slice none 0 0) ∧ w.heap.size + 2 ≤ W.heap.size) := by
    rw [hW]
    refine ⟨((Below.refl _ _).alloc (Nat.le_refl _) _).alloc (by simp) _, (S4.new w _ _ _ _ _).keep ((Below.refl _ _).alloc (Nat.le_refl _) _), ?_, by simp⟩
    have := S6.new (w.alloc (.cells #[.int .i64 bu, .int .i64 gu, .slice ta tl.length tc, .slice ka kl.length kc] 28)) (.int .i64 0) (.int .i64 0) (.int .i64 0) (.slice none 0 0) (.slice none 0 0) (.slice none 0 0) 81
    simpa using this
  have HP : Hid (∀ X, Below w.heap.size w X → Calls Tryz.prog 113 #[.agg #[.int .i64 bu, .int .i64 gu, .slice ta tl.length tc, .slice ka kl.length kc], .bool hard, .func (.func 116) #[] #[]] X fun e w' => (∃ r : QR, e = .returned (.agg #[.int .i64 A.c, .int .i64 A.bu, .int .i64 A.gu, .slice r.s.a1 r.s.n1 r.s.k1, .slice r.s.a2 r.s.n2 r.s.k2, .slice r.a3 r.n3 r.k3]) ∧ QSto w' X.heap.size w'.heap.size r A.t A.k A.g) ∧ Below X.heap.size X w') := fun X hX => by
    rw [← hA]
    exact purge_any X X.heap.size _ _ anyP _ bu gu ta ka tc kc tl kl hard (predAny X.heap.size) trivial (Nat.le_refl _) (hset.below hX) hl hk hto hts (ht.keep hX) (hq.keep hX)
  have e0 := K0.out.2.1.c0
  have e1 := K0.out.2.1.c1
  have e2 := K0.out.2.1.c2
  have e3 := K0.out.2.1.c3
  rw [HW.out] at e0 e1 e2 e3
  clear hA hW hset hl hk hto hts ht hq
  obtain ⟨c, bo, go, T1, T2, G⟩ := A
  simp only at HP
  generalize tl.length = tn at *
  generalize kl.length = kn at *
  go_enter Tryz.func47, Tryz.ntmps47
  go_wp2_with fail
  rw [← HW.out]
  obtain ⟨w2, hw2⟩ : ∃ w2, w2 = W := ⟨_, rfl⟩
  rw [← hw2] at K0 ⊢
  have CP := HP.out w2 K0.out.1
  have K1 : Hid (Below w.heap.size w w2 ∧ S6 w2 (w.heap.size + 1) (.int .i64 0) (.int .i64 0) (.int .i64 0) (.slice none 0 0) (.slice none 0 0) (.slice none 0 0) ∧ w.heap.size + 1 < w2.heap.size) := ⟨K0.out.1, K0.out.2.2.1, by have := K0.out.2.2.2; omega⟩
  clear K0 hw2
  refine CP.mono ?_
  rintro r0 w3 ⟨⟨r, rfl, hQ⟩, hb3⟩
  have s6 := K1.out.2.1.keep hb3
  have HQ : Hid (QSto w3 w2.heap.size w3.heap.size r T1 T2 G ∧ w.heap.size + 1 < w2.heap.size ∧ Below w.heap.size w w3) := ⟨hQ, K1.out.2.2, K1.out.1.trans (hb3.mono K1.out.1.size)⟩
  have z0 := s6.c0
  have z1 := s6.c1
  have z2 := s6.c2
  have z3 := s6.c3
  have z4 := s6.c4
  have z5 := s6.c5
  have zf0 := s6.fr 0
  have zf1 := s6.fr 1
  have zf2 := s6.fr 2
  have zf3 := s6.fr 3
  have zf4 := s6.fr 4
  have zf5 := s6.fr 5
  clear s6 hQ hb3 K1 CP HP
  go_wp2_with fail
  refine bodyPost_ret (v := .agg #[.int .i64 c, .int .i64 bo, .int .i64 go, .slice r.s.a1 r.s.n1 r.s.k1, .slice r.s.a2 r.s.n2 r.s.k2, .slice r.a3 r.n3 r.k3]) (by simp [results, Tryz.results47, go_sem, z0, z1, z2, z3, z4, z5]) rfl ?_
  refine ⟨⟨r, rfl, QSto.lower (PurAns.off6 (A := ⟨c, bo, go, T1, T2, G⟩) HQ.out.1 HQ.out.2.1 _ _ _ _ _ _) (by have := HQ.out.2.1; omega)⟩, ?_⟩
  exact (((((HQ.out.2.2.setCell (by simp) _).setCell (by simp) _).setCell (by simp) _).setCell (by simp) _).setCell (by simp) _).setCell (by simp) _
end Go.Proofs.YtdooopkpnanekaaGreatDoor
/-
  What purges answer fits what the laws take.
-/
namespace Go.Proofs.YtdooopkpnanekaaGreatDoor
open Go.ChangeShapes Go.WideShapes Go.ChangeAt Go.RowKit Go.Sort
theorem resE_fit {hard : Bool} {p : Ent → Bool} {L : List Ent} (h : FitE L) : FitE (resE hard p L) := by
  cases hard
  · refine ⟨by simpa [resE, turnE] using h.n, fun x hx => ?_⟩
    obtain ⟨y, hy, rfl⟩ := List.mem_map.1 hx
    have f := h.f y hy
    by_cases c : p y = true
    · simp only [c, if_true]; exact ⟨f.h, f.b, f.t⟩
    · simp only [c]; exact f
  · exact ⟨Nat.le_trans (List.length_filter_le _ _) h.n, fun x hx => h.f x (List.mem_filter.1 hx).1⟩
theorem fit_no : FitE [] := ⟨by simp, by simp⟩
theorem fitE_of {tl kl : List (Ent × EntR)} (h : StoFit tl kl) : FitE (tl.map Prod.fst) ∧ FitE (kl.map Prod.fst) :=
  ⟨⟨by simpa using h.tn, fun x hx => by obtain ⟨q, hq, rfl⟩ := List.mem_map.1 hx; exact h.tf q hq⟩, ⟨by simpa using h.kn, fun x hx => by obtain ⟨q, hq, rfl⟩ := List.mem_map.1 hx; exact h.kf q hq⟩⟩
theorem purA_fit {bu gu : Int} {tl kl : List (Ent × EntR)} {p : Ent → Bool} {hard : Bool} (h : StoFit tl kl) : FitE (purA bu gu (tl.map Prod.fst) (kl.map Prod.fst) p hard).t ∧ FitE (purA bu gu (tl.map Prod.fst) (kl.map Prod.fst) p hard).k ∧ FitG (purA bu gu (tl.map Prod.fst) (kl.map Prod.fst) p hard).g := by
  unfold purA
  split
  · exact ⟨fit_no, fit_no, ⟨by simp [badQ]⟩⟩
  · rename_i h1
    have h0 : storeC bu gu (tl.map Prod.fst) (kl.map Prod.fst) = 0 := by simpa using h1
    have := (storeC_zero h0).2.1
    have k := keysP_len p (tl.map Prod.fst ++ kl.map Prod.fst)
    rw [List.length_append] at k
    exact ⟨resE_fit (fitE_of h).1, resE_fit (fitE_of h).2, ⟨by show (keysP p (tl.map Prod.fst ++ kl.map Prod.fst)).length ≤ 1000; omega⟩⟩
end Go.Proofs.YtdooopkpnanekaaGreatDoor
/-
  The law of DropEntry.
-/
namespace Go.Proofs.YtdooopkpnanekaaGreatDoor
open Go.ChangeShapes Go.WideShapes Go.ChangeAt Go.RowKit Go.Sort
theorem fil_fit {p : Ent → Bool} {L : List Ent} (h : FitE L) : FitE (L.filter p) := ⟨Nat.le_trans (List.length_filter_le _ _) h.n, fun x hx => h.f x (List.mem_filter.1 hx).1⟩
theorem dropA_fit {bu gu : Int} {tl kl : List (Ent × EntR)} {key : ByteArray} (h : StoFit tl kl) : FitE (dropA bu gu (tl.map Prod.fst) (kl.map Prod.fst) key).t ∧ FitE (dropA bu gu (tl.map Prod.fst) (kl.map Prod.fst) key).k := by
  unfold dropA
  split
  · exact ⟨fit_no, fit_no⟩
  · exact ⟨fil_fit (fitE_of h).1, fil_fit (fitE_of h).2⟩
end Go.Proofs.YtdooopkpnanekaaGreatDoor
/-
  The law of TouchEntry.
-/
namespace Go.Proofs.YtdooopkpnanekaaGreatDoor
open Go.ChangeShapes Go.WideShapes Go.ChangeAt Go.RowKit Go.Sort
theorem lowR_fit (g : Int) : ∀ (K T : List Ent), (∀ x ∈ T, EntFit x) → (∀ x ∈ K, EntFit x) → T.length + K.length ≤ 41 → (∀ x ∈ (lowR g T K).1, EntFit x) ∧ (∀ x ∈ (lowR g T K).2, EntFit x) ∧ (lowR g T K).1.length ≤ 41 ∧ (lowR g T K).2.length ≤ 41
  | [], T, h1, _, h3 => by simp only [lowR]; exact ⟨h1, fun x hx => by simp at hx, by simpa using h3, by simp⟩
  | x :: r, T, h1, h2, h3 => by
    simp only [lowR]
    split
    · exact ⟨h1, fun y hy => h2 y (List.mem_reverse.1 hy), by simp only [List.length_cons] at h3; show T.length ≤ 41; omega, by simp only [List.length_reverse]; simp only [List.length_cons] at h3 ⊢; omega⟩
    · refine lowR_fit g r (x :: T) (fun y hy => ?_) (fun y hy => h2 y (List.mem_cons_of_mem _ hy)) (by simp only [List.length_cons] at h3 ⊢; omega)
      rcases List.mem_cons.1 hy with rfl | hy
      · exact h2 _ (List.mem_cons_self ..)
      · exact h1 y hy
theorem touchA_fit {bu gu : Int} {tl kl : List (Ent × EntR)} {key : ByteArray} (h : StoFit tl kl) : FitE (touchA bu gu (tl.map Prod.fst) (kl.map Prod.fst) key).t ∧ FitE (touchA bu gu (tl.map Prod.fst) (kl.map Prod.fst) key).k := by
  unfold touchA
  split
  · exact ⟨fit_no, fit_no⟩
  · rename_i hc
    obtain ⟨hst, hfd⟩ := peekR_zero (Decidable.not_not.1 hc)
    have hln := (storeC_zero hst).2.1
    have f1 := (fitE_of h).1
    have f2 := (fitE_of h).2
    have hx : EntFit (peekR bu gu (tl.map Prod.fst) (kl.map Prod.fst) key).2 := by
      rcases List.mem_append.1 (List.mem_of_find?_eq_some hfd) with q | q
      · exact f1.f _ q
      · exact f2.f _ q
    obtain ⟨a, b, c, d⟩ := lowR_fit gu (((peekR bu gu (tl.map Prod.fst) (kl.map Prod.fst) key).2 :: (kl.map Prod.fst).filter fun x => !isKey key x).reverse) ((tl.map Prod.fst).filter fun x => !isKey key x) (fun x hx => f1.f x (List.mem_filter.1 hx).1) (fun x hx => by
      rcases List.mem_cons.1 (List.mem_reverse.1 hx) with rfl | q
      · exact ‹EntFit _›
      · exact f2.f x (List.mem_filter.1 q).1) (by
      have h1 := List.length_filter_le (fun x => !isKey key x) (tl.map Prod.fst)
      have h2 := List.length_filter_le (fun x => !isKey key x) (kl.map Prod.fst)
      simp only [List.length_reverse, List.length_cons]
      omega)
    exact ⟨⟨Nat.le_trans c (by decide), a⟩, ⟨Nat.le_trans d (by decide), b⟩⟩
set_option maxRecDepth 100000 in
set_option maxHeartbeats 16000000 in
theorem lawTouchEntry (w : World) (bu gu : Int) (ta ka : Option Addr) (tc kc : Nat) (tl kl : List (Ent × EntR)) (key : ByteArray) (hset : SetIs w) (h1 : StoArg w ta ka tl kl) :
    Calls Tryz.prog 3 #[.agg #[.int .i64 bu, .int .i64 gu, .slice ta tl.length tc, .slice ka kl.length kc], .string key] w fun r w' => r = .returned (.bool true) ∧ Below w.heap.size w w' := by
  obtain ⟨W, hW⟩ : ∃ W, W = w.alloc (.cells #[.int .i64 bu, .int .i64 gu, .slice ta tl.length tc, .slice ka kl.length kc] 24) := ⟨_, rfl⟩
  have HW : Hid (W = w.alloc (.cells #[.int .i64 bu, .int .i64 gu, .slice ta tl.length tc, .slice ka kl.length kc] 24)) := hW
  have K0 : Hid (Below w.heap.size w W ∧ S4 W w.heap.size (.int .i64 bu) (.int .i64 gu) (.slice ta tl.length tc) (.slice ka kl.length kc)) := by
    rw [hW]; exact ⟨(Below.refl _ _).alloc (Nat.le_refl _) _, S4.new w _ _ _ _ _⟩
  by_cases ck : (1048576 : Int) < key.size
  · have KB : Hid (Below w.heap.size w W) := K0.out.1
    clear hW hset h1 K0
    go_enter Tryz.func3, Tryz.ntmps3
    go_wp2_with fail
    rw [← HW.out]
    go_ret
    exact ⟨rfl, KB.out⟩
  have HZ : Hid (∀ X, Below w.heap.size w X → Calls Tryz.prog 8 #[.agg #[.int .i64 bu, .int .i64 gu, .slice ta tl.length tc, .slice ka kl.length kc], .int .i64 1048576] X fun r w' => r = .returned (.int .i64 (szSt 1048576 tl kl)) ∧ Below X.heap.size X w') := fun X hb => szStore_arg X bu gu ta ka tc kc tl kl 1048576 (by omega) (by omega) (h1.keep hb)
  obtain ⟨ok, hok⟩ : ∃ P : Prop, P = (StoFit tl kl ∧ ∀ x ∈ (tl ++ kl).map Prod.fst, ∀ t ∈ x.ts, t.size ≤ 1048576) := ⟨_, rfl⟩
  have HR : Hid (¬ szSt 1048576 tl kl < 0 → ok) := fun h => by rw [hok]; exact ⟨(szSt_room (by omega) h).1, szSt_tags (by omega) h⟩
  have HT : Hid (ok → ∀ X, Below w.heap.size w X → Calls Tryz.prog 10 #[.agg #[.int .i64 bu, .int .i64 gu, .slice ta tl.length tc, .slice ka kl.length kc]] X fun ee w' => (∃ G1 G2, ee = .returned (.agg #[.int .i64 bu, .int .i64 gu, .slice (some ⟨G1, 0, none⟩) tl.length tl.length, .slice (some ⟨G2, 0, none⟩) kl.length kl.length]) ∧ StoNew w' G1 G2 tl kl ∧ X.heap.size ≤ G1) ∧ Below X.heap.size X w') := fun hf X hb => toStore_arg X bu gu ta ka tc kc tl kl (h1.keep hb) (hok ▸ hf).1
  have HQ : Hid (ok → ∀ X G1 G2 H1 H2, StoNew X G1 G2 tl kl → StoNew X H1 H2 tl kl → Calls Tryz.prog 13 #[.agg #[.int .i64 bu, .int .i64 gu, .slice (some ⟨G1, 0, none⟩) tl.length tl.length, .slice (some ⟨G2, 0, none⟩) kl.length kl.length], .agg #[.int .i64 bu, .int .i64 gu, .slice (some ⟨H1, 0, none⟩) tl.length tl.length, .slice (some ⟨H2, 0, none⟩) kl.length kl.length]] X fun r w' => r = .returned (.bool true) ∧ Below X.heap.size X w') := fun hf X G1 G2 H1 H2 h k => eqStore_new X bu gu tl kl G1 G2 H1 H2 (hok ▸ hf).1 h k
  have HM : Hid (ok → ∀ w0 X G1 G2 lo, StoNew w0 G1 G2 tl kl → Below w0.heap.size w0 X → lo ≤ G1 → Calls Tryz.prog 14 #[.agg #[.int .i64 bu, .int .i64 gu, .slice (some ⟨G1, 0, none⟩) tl.length tl.length, .slice (some ⟨G2, 0, none⟩) kl.length kl.length], .int .i64 1] X fun e w' => (∃ c1 : Nat, e = .returned (.int .i64 (c1 : Int)) ∧ 1 ≤ c1 ∧ c1 ≤ 10000000000000) ∧ Below lo X w' ∧ Above w0.heap.size X w') := fun hf w0 X G1 G2 lo h hX hlo => markSto_weak w0 X bu gu tl kl G1 G2 lo _ _ _ (hok ▸ hf).1 h hX hlo rfl
  obtain ⟨An, hAn⟩ : ∃ An : SAns, touchA bu gu (tl.map Prod.fst) (kl.map Prod.fst) key = An := ⟨_, rfl⟩
  have HFX : Hid (ok → FitE An.t ∧ FitE An.k) := fun hf => by rw [← hAn]; exact touchA_fit (hok ▸ hf).1
  have HS : Hid (ok → ∀ X G1 G2, StoNew X G1 G2 tl kl → Calls Tryz.prog 9 #[.agg #[.int .i64 bu, .int .i64 gu, .slice (some ⟨G1, 0, none⟩) tl.length tl.length, .slice (some ⟨G2, 0, none⟩) kl.length kl.length], .string key] X fun e w' => StoAns An X.heap.size e w' ∧ Below X.heap.size X w') := fun hf X G1 G2 h => by
    rw [← hAn]
    obtain ⟨a, b, e1, e2, m⟩ := h
    have l1 := len_map e1
    have l2 := len_map e2
    have hfit := (hok ▸ hf).1
    have hokk := ok_of h1 (hok ▸ hf).1
    rw [← l1, ← l2, ← e1, ← e2]
    exact specTouch_any X bu gu _ _ _ _ a b key (by rw [l1]; exact hfit.tn) (by rw [l2]; exact hfit.kn) (ok_map e1 e2 hokk) (fit_all e1 e2 hfit) m.t.in m.k.in
  have HG : Hid (ok → ∀ X G1 G2, Below w.heap.size w X → StoNew X G1 G2 tl kl → Calls Tryz.prog 11 #[.agg #[.int .i64 bu, .int .i64 gu, .slice (some ⟨G1, 0, none⟩) tl.length tl.length, .slice (some ⟨G2, 0, none⟩) kl.length kl.length], .string key] X fun e w' => StoAns An X.heap.size e w' ∧ Below X.heap.size X w') := fun hf X G1 G2 hb h => by
    rw [← hAn]
    obtain ⟨a, b, e1, e2, m⟩ := h
    have l1 := len_map e1
    have l2 := len_map e2
    have hfit := (hok ▸ hf).1
    have hokk := ok_of h1 (hok ▸ hf).1
    have htt : ∀ q ∈ a ++ b, ∀ t ∈ q.1.ts, t.size ≤ 1048576 := fun q hq => (hok ▸ hf).2 q.1 (by rw [List.map_append, ← e1, ← e2, ← List.map_append]; exact List.mem_map_of_mem hq)
    rw [← l1, ← l2, ← e1, ← e2]
    exact implTouchE_any X bu gu _ _ _ _ a b key (hset.below hb) (by rw [l1]; exact hfit.tn) (by rw [l2]; exact hfit.kn) (ok_map e1 e2 hokk) htt m.t.in m.k.in
  clear h1 hW hset hAn hok
  obtain ⟨c, bo, go, L1, L2⟩ := An
  simp only [StoAns] at HS HG HFX
  generalize szSt 1048576 tl kl = z1 at *
  generalize tl.length = tn at *
  generalize kl.length = kn at *
  go_enter Tryz.func3, Tryz.ntmps3
  go_wp2_with fail
  rw [← HW.out]
  refine (HZ.out _ K0.out.1).mono ?_
  rintro e0 w1 ⟨rfl, hb1⟩
  have K1 : Hid (Below w.heap.size w w1 ∧ S4 w1 w.heap.size (.int .i64 bu) (.int .i64 gu) (.slice ta tn tc) (.slice ka kn kc)) := ⟨K0.out.1.trans (hb1.mono K0.out.1.size), K0.out.2.keep hb1⟩
  clear K0 HW HZ hb1
  by_cases cz : z1 < 0
  · clear HR HT HQ HS HG HM HFX
    go_wp2_with fail
    go_ret
    exact ⟨rfl, K1.out.1⟩
  have HF : Hid ok := HR.out (by omega)
  have HX : Hid (FitE L1 ∧ FitE L2) := HFX.out HF.out
  have HE : Hid (∀ X r s, RIn X r L1 L2 → RIn X s L1 L2 → Calls Tryz.prog 12 #[.agg #[.int .i64 c, .int .i64 bo, .int .i64 go, .slice r.a1 r.n1 r.k1, .slice r.a2 r.n2 r.k2], .agg #[.int .i64 c, .int .i64 bo, .int .i64 go, .slice s.a1 s.n1 s.k1, .slice s.a2 s.n2 s.k2]] X fun e w' => e = .returned (.bool true) ∧ Below X.heap.size X w') := fun X r s h k => eqStoR_r X c bo go r s L1 L2 HX.out.1 HX.out.2 h k
  clear HR HFX
  have e0 := K1.out.2.c0
  have e1 := K1.out.2.c1
  have e2 := K1.out.2.c2
  have e3 := K1.out.2.c3
  go_wp2_with fail
  refine (HT.out HF.out _ K1.out.1).mono ?_
  rintro r0 w2 ⟨⟨J1, J2, rfl, m2, _⟩, hb2⟩
  have K2 : Hid (Below w.heap.size w w2 ∧ S4 w2 w.heap.size (.int .i64 bu) (.int .i64 gu) (.slice ta tn tc) (.slice ka kn kc) ∧ StoNew w2 J1 J2 tl kl) := ⟨K1.out.1.trans (hb2.mono K1.out.1.size), K1.out.2.keep hb2, m2⟩
  clear K1 e0 e1 e2 e3 hb2 m2
  go_wp2_with fail
  refine (HS.out HF.out _ _ _ K2.out.2.2).mono ?_
  rintro r0 w3 ⟨⟨r, rfl, hr⟩, hb3⟩
  obtain ⟨V3, hV3⟩ : ∃ V, V = w3.alloc (.cells #[.int .i64 c, .int .i64 bo, .int .i64 go, .slice r.a1 r.n1 r.k1, .slice r.a2 r.n2 r.k2] 30) := ⟨_, rfl⟩
  have HV3 : Hid (V3 = w3.alloc (.cells #[.int .i64 c, .int .i64 bo, .int .i64 go, .slice r.a1 r.n1 r.k1, .slice r.a2 r.n2 r.k2] 30)) := hV3
  have K3 : Hid (Below w.heap.size w V3 ∧ S4 V3 w.heap.size (.int .i64 bu) (.int .i64 gu) (.slice ta tn tc) (.slice ka kn kc) ∧ S5 V3 w3.heap.size (.int .i64 c) (.int .i64 bo) (.int .i64 go) (.slice r.a1 r.n1 r.k1) (.slice r.a2 r.n2 r.k2) ∧ RIn V3 r L1 L2) := by
    have a3 : Below w3.heap.size w3 V3 := by rw [hV3]; exact (Below.refl _ _).alloc (Nat.le_refl _) _
    have b3 := K2.out.1.trans (hb3.mono K2.out.1.size)
    exact ⟨b3.trans (a3.mono b3.size), (K2.out.2.1.keep hb3).keep a3, by rw [hV3]; exact S5.new w3 _ _ _ _ _ _, hr.in.keep a3⟩
  clear K2 hb3 HS hV3 hr
  have e0 := K3.out.2.1.c0
  have e1 := K3.out.2.1.c1
  have e2 := K3.out.2.1.c2
  have e3 := K3.out.2.1.c3
  rw [HV3.out] at e0 e1 e2 e3
  go_wp2_with fail
  rw [← HV3.out]
  refine (HT.out HF.out _ K3.out.1).mono ?_
  rintro r0 w4 ⟨⟨G1, G2, rfl, m4, hG⟩, hb4⟩
  obtain ⟨V4, hV4⟩ : ∃ V, V = w4.alloc (.cells #[.int .i64 bu, .int .i64 gu, .slice (some ⟨G1, 0, none⟩) tn tn, .slice (some ⟨G2, 0, none⟩) kn kn] 28) := ⟨_, rfl⟩
  have HV4 : Hid (V4 = w4.alloc (.cells #[.int .i64 bu, .int .i64 gu, .slice (some ⟨G1, 0, none⟩) tn tn, .slice (some ⟨G2, 0, none⟩) kn kn] 28)) := hV4
  have K4 : Hid (Below w.heap.size w V4 ∧ S4 V4 w.heap.size (.int .i64 bu) (.int .i64 gu) (.slice ta tn tc) (.slice ka kn kc) ∧ S4 V4 w4.heap.size (.int .i64 bu) (.int .i64 gu) (.slice (some ⟨G1, 0, none⟩) tn tn) (.slice (some ⟨G2, 0, none⟩) kn kn) ∧ StoNew w4 G1 G2 tl kl ∧ Below w4.heap.size w4 V4 ∧ Below V3.heap.size V3 V4) := by
    have a4 : Below w4.heap.size w4 V4 := by rw [hV4]; exact (Below.refl _ _).alloc (Nat.le_refl _) _
    have b4 := K3.out.1.trans (hb4.mono K3.out.1.size)
    exact ⟨b4.trans (a4.mono b4.size), (K3.out.2.1.keep hb4).keep a4, by rw [hV4]; exact S4.new w4 _ _ _ _ _, m4, a4, hb4.trans (a4.mono hb4.size)⟩
  clear e0 e1 e2 e3 hb4 m4 hV4 HV3
  go_wp2_with fail
  rw [← HV4.out]
  refine (HG.out HF.out _ _ _ K4.out.1 (K4.out.2.2.2.1.keep K4.out.2.2.2.2.1)).mono ?_
  rintro r0 w5 ⟨⟨s, rfl, hs⟩, hb5⟩
  obtain ⟨V5, hV5⟩ : ∃ V, V = w5.alloc (.cells #[.int .i64 c, .int .i64 bo, .int .i64 go, .slice s.a1 s.n1 s.k1, .slice s.a2 s.n2 s.k2] 30) := ⟨_, rfl⟩
  have HV5 : Hid (V5 = w5.alloc (.cells #[.int .i64 c, .int .i64 bo, .int .i64 go, .slice s.a1 s.n1 s.k1, .slice s.a2 s.n2 s.k2] 30)) := hV5
  have K5 : Hid (Below V4.heap.size V4 V5 ∧ S5 V5 w5.heap.size (.int .i64 c) (.int .i64 bo) (.int .i64 go) (.slice s.a1 s.n1 s.k1) (.slice s.a2 s.n2 s.k2) ∧ RSto V5 V4.heap.size w5.heap.size s L1 L2 ∧ w5.heap.size ≤ V5.heap.size ∧ V4.heap.size ≤ w5.heap.size) := by
    have a5 : Below w5.heap.size w5 V5 := by rw [hV5]; exact (Below.refl _ _).alloc (Nat.le_refl _) _
    exact ⟨hb5.trans (a5.mono hb5.size), by rw [hV5]; exact S5.new w5 _ _ _ _ _ _, hs.below a5, a5.size, hb5.size⟩
  have K35 : Hid (Below V3.heap.size V3 V5) := K4.out.2.2.2.2.2.trans (K5.out.1.mono K4.out.2.2.2.2.2.size)
  clear hb5 hV5 HV4 hs
  have i0 := (K3.out.2.2.1.keep K35.out).c0
  have i1 := (K3.out.2.2.1.keep K35.out).c1
  have i2 := (K3.out.2.2.1.keep K35.out).c2
  have i3 := (K3.out.2.2.1.keep K35.out).c3
  have i4 := (K3.out.2.2.1.keep K35.out).c4
  rw [HV5.out] at i0 i1 i2 i3 i4
  go_wp2_with fail
  rw [← HV5.out]
  refine (HE.out _ s r K5.out.2.2.1.in (K3.out.2.2.2.keep K35.out)).mono ?_
  rintro e0 w6 ⟨rfl, hb6⟩
  obtain ⟨x0, hx0⟩ : ∃ q, q = w4.heap.size := ⟨_, rfl⟩
  have HX0 : Hid (x0 = w4.heap.size) := hx0
  have HK : Hid (∀ X, Below w6.heap.size w6 X → Below V5.heap.size V5 X) := fun X hX => hb6.trans (hX.mono hb6.size)
  have HKA : Hid (∀ X, Below V5.heap.size V5 X → Below w.heap.size w X ∧ S4 X w.heap.size (.int .i64 bu) (.int .i64 gu) (.slice ta tn tc) (.slice ka kn kc) ∧ S4 X x0 (.int .i64 bu) (.int .i64 gu) (.slice (some ⟨G1, 0, none⟩) tn tn) (.slice (some ⟨G2, 0, none⟩) kn kn) ∧ StoNew X G1 G2 tl kl) := fun X hX => by
    rw [hx0]
    have h4 : Below V4.heap.size V4 X := K5.out.1.trans (hX.mono K5.out.1.size)
    exact ⟨K4.out.1.trans (h4.mono K4.out.1.size), K4.out.2.1.keep h4, K4.out.2.2.1.keep h4, (K4.out.2.2.2.1.keep K4.out.2.2.2.2.1).keep h4⟩
  have HG1 : Hid (V3.heap.size ≤ G1) := hG
  clear i0 i1 i2 i3 i4 hb6 HV5 hG
  rw [← hx0]
  clear hx0
  have HKS : Hid (∀ X, Below w6.heap.size w6 X → X.cell? ⟨w.heap.size, 0, none⟩ = some (.int .i64 bu) ∧ X.cell? ⟨w.heap.size, 1, none⟩ = some (.int .i64 gu) ∧ X.cell? ⟨w.heap.size, 2, none⟩ = some (.slice ta tn tc) ∧ X.cell? ⟨w.heap.size, 3, none⟩ = some (.slice ka kn kc) ∧ X.cell? ⟨x0, 0, none⟩ = some (.int .i64 bu) ∧ X.cell? ⟨x0, 1, none⟩ = some (.int .i64 gu) ∧ X.cell? ⟨x0, 2, none⟩ = some (.slice (some ⟨G1, 0, none⟩) tn tn) ∧ X.cell? ⟨x0, 3, none⟩ = some (.slice (some ⟨G2, 0, none⟩) kn kn)) := fun X hX => by
    have hb := HKA.out X (HK.out X hX)
    exact ⟨hb.2.1.c0, hb.2.1.c1, hb.2.1.c2, hb.2.1.c3, hb.2.2.1.c0, hb.2.2.1.c1, hb.2.2.1.c2, hb.2.2.1.c3⟩
  have B0 : Hid (Below w6.heap.size w6 w6.drew) := (Below.refl _ _).drew
  go_wp2_with fail
  go_region_held3 (fun X => X.cell? ⟨w.heap.size, 0, none⟩ = some (.int .i64 bu) ∧ X.cell? ⟨w.heap.size, 1, none⟩ = some (.int .i64 gu) ∧ X.cell? ⟨w.heap.size, 2, none⟩ = some (.slice ta tn tc) ∧ X.cell? ⟨w.heap.size, 3, none⟩ = some (.slice ka kn kc) ∧ X.cell? ⟨x0, 0, none⟩ = some (.int .i64 bu) ∧ X.cell? ⟨x0, 1, none⟩ = some (.int .i64 gu) ∧ X.cell? ⟨x0, 2, none⟩ = some (.slice (some ⟨G1, 0, none⟩) tn tn) ∧ X.cell? ⟨x0, 3, none⟩ = some (.slice (some ⟨G2, 0, none⟩) kn kn))
    (first | exact HKS.out _ BB.out | exact HKS.out _ BA.out | exact HKS.out _ B0.out)
    (first
    | (go_at_call 10; refine (HT.out HF.out _ (HKA.out _ (HK.out _ B0.out)).1).mono ?_; rintro r0 wa ⟨⟨I1, I2, rfl, ma, _⟩, hba⟩; have BA : Hid (Below w6.heap.size w6 wa) := B0.out.trans (hba.mono B0.out.size); have MA : Hid (StoNew wa I1 I2 tl kl) := ma; clear hba ma)
    | (go_at_call 13; refine (HQ.out HF.out _ _ _ _ _ (HKA.out _ (HK.out _ BA.out)).2.2.2 MA.out).mono ?_; rintro r0 wb ⟨rfl, hbb⟩; have BB : Hid (Below w6.heap.size w6 wb) := BA.out.trans (hbb.mono BA.out.size); clear hbb))
  all_goals
    have KB : Hid (Below V5.heap.size V5 wb) := HK.out _ BB.out
    obtain ⟨x1, x2, x3, x4, x5, x6, x7, x8⟩ := HKS.out _ BB.out
    clear HK HKS B0 BA BB MA HQ
    go_wp2_with fail
    have h4b : Below w4.heap.size w4 wb := K4.out.2.2.2.2.1.trans ((K5.out.1.trans (KB.out.mono K5.out.1.size)).mono K4.out.2.2.2.2.1.size)
    refine (HM.out HF.out w4 wb G1 G2 V3.heap.size K4.out.2.2.2.1 h4b HG1.out).mono ?_
    rintro r0 w7 ⟨⟨k1, rfl, hk1, hk2⟩, hb7, ha7⟩
    have g7 : ¬ (k1 : Int) < 0 := by omega
    have H7 : Hid (Below w.heap.size w w7 ∧ S4 w7 w.heap.size (.int .i64 bu) (.int .i64 gu) (.slice ta tn tc) (.slice ka kn kc) ∧ S5 w7 w3.heap.size (.int .i64 c) (.int .i64 bo) (.int .i64 go) (.slice r.a1 r.n1 r.k1) (.slice r.a2 r.n2 r.k2) ∧ RIn w7 r L1 L2 ∧ S5 w7 w5.heap.size (.int .i64 c) (.int .i64 bo) (.int .i64 go) (.slice s.a1 s.n1 s.k1) (.slice s.a2 s.n2 s.k2) ∧ RSto w7 V4.heap.size w5.heap.size s L1 L2 ∧ Below V3.heap.size V3 w7 ∧ w5.heap.size ≤ w7.heap.size) := by
      have d3 : Below V3.heap.size V3 w7 := (K35.out.trans (KB.out.mono K35.out.size)).trans hb7
      have e4 := K4.out.2.2.2.2.1.size
      exact ⟨K3.out.1.trans (d3.mono K3.out.1.size), K3.out.2.1.keep d3, K3.out.2.2.1.keep d3, K3.out.2.2.2.keep d3, (K5.out.2.1.keep KB.out).above ha7 (by have := K5.out.2.2.2.2; omega), (K5.out.2.2.1.below KB.out).above ha7 (by omega), d3, by have := K5.out.2.2.2.1; have := KB.out.size; have := hb7.size; omega⟩
    clear hb7 ha7 h4b KB x1 x2 x3 x4 x5 x6 x7 x8 HM HKA K35 HG1 HX0
    have i0 := H7.out.2.2.1.c0
    have i1 := H7.out.2.2.1.c1
    have i2 := H7.out.2.2.1.c2
    have i3 := H7.out.2.2.1.c3
    have i4 := H7.out.2.2.1.c4
    have j0 := H7.out.2.2.2.2.1.c0
    have j1 := H7.out.2.2.2.2.1.c1
    have j2 := H7.out.2.2.2.2.1.c2
    have j3 := H7.out.2.2.2.2.1.c3
    have j4 := H7.out.2.2.2.2.1.c4
    go_wp2_with fail
    refine (HE.out _ s r H7.out.2.2.2.2.2.1.in H7.out.2.2.2.1).mono ?_
    rintro e0 w8 ⟨rfl, hb8⟩
    have H8 : Hid (Below w.heap.size w w8 ∧ S4 w8 w.heap.size (.int .i64 bu) (.int .i64 gu) (.slice ta tn tc) (.slice ka kn kc) ∧ S5 w8 w3.heap.size (.int .i64 c) (.int .i64 bo) (.int .i64 go) (.slice r.a1 r.n1 r.k1) (.slice r.a2 r.n2 r.k2) ∧ RIn w8 r L1 L2 ∧ S5 w8 w5.heap.size (.int .i64 c) (.int .i64 bo) (.int .i64 go) (.slice s.a1 s.n1 s.k1) (.slice s.a2 s.n2 s.k2) ∧ RSto w8 V4.heap.size w5.heap.size s L1 L2 ∧ Below V3.heap.size V3 w8 ∧ w5.heap.size ≤ w8.heap.size) := by
      have d3 : Below V3.heap.size V3 w8 := H7.out.2.2.2.2.2.2.1.trans (hb8.mono H7.out.2.2.2.2.2.2.1.size)
      exact ⟨K3.out.1.trans (d3.mono K3.out.1.size), K3.out.2.1.keep d3, K3.out.2.2.1.keep d3, K3.out.2.2.2.keep d3, H7.out.2.2.2.2.1.keep hb8, H7.out.2.2.2.2.2.1.below hb8, d3, by have := H7.out.2.2.2.2.2.2.2; have := hb8.size; omega⟩
    clear hb8 H7 g7 i0 i1 i2 i3 i4 j0 j1 j2 j3 j4
    have i0 := H8.out.2.2.2.2.1.c0
    have i1 := H8.out.2.2.2.2.1.c1
    have i2 := H8.out.2.2.2.2.1.c2
    have i3 := H8.out.2.2.2.2.1.c3
    have i4 := H8.out.2.2.2.2.1.c4
    go_wp2_with fail
    refine (markStoR_r w8 V4.heap.size w5.heap.size c bo go s L1 L2 HX.out.1 HX.out.2 (by have := H8.out.2.2.2.2.2.2.2; have := K5.out.2.2.2.2; omega) H8.out.2.2.2.2.2.1).mono ?_
    rintro e0 w9 ⟨rfl, hb9, ha9, hh9⟩
    have H9 : Hid (Below w.heap.size w w9 ∧ S4 w9 w.heap.size (.int .i64 bu) (.int .i64 gu) (.slice ta tn tc) (.slice ka kn kc) ∧ S5 w9 w3.heap.size (.int .i64 c) (.int .i64 bo) (.int .i64 go) (.slice r.a1 r.n1 r.k1) (.slice r.a2 r.n2 r.k2) ∧ RIn w9 r L1 L2 ∧ S5 w9 w5.heap.size (.int .i64 c) (.int .i64 bo) (.int .i64 go) (.slice s.a1 s.n1 s.k1) (.slice s.a2 s.n2 s.k2) ∧ RHeld w9 s L1 L2) := by
      have e4 := K4.out.2.2.2.2.2.size
      have d3 : Below V3.heap.size V3 w9 := H8.out.2.2.2.2.2.2.1.trans (hb9.mono e4)
      exact ⟨K3.out.1.trans (d3.mono K3.out.1.size), K3.out.2.1.keep d3, K3.out.2.2.1.keep d3, K3.out.2.2.2.keep d3, H8.out.2.2.2.2.1.above ha9 (Nat.le_refl _), hh9⟩
    clear hb9 ha9 hh9 H8 K3 K4 K5 i0 i1 i2 i3 i4
    have gq : ¬ (nStoE L1 L2 : Int) < 0 := by omega
    obtain ⟨N, hN⟩ : ∃ N : Int, (nStoE L1 L2 : Int) = N := ⟨_, rfl⟩
    have HH : Hid (∀ X, RHeld X s L1 L2 → Calls Tryz.prog 16 #[.agg #[.int .i64 c, .int .i64 bo, .int .i64 go, .slice s.a1 s.n1 s.k1, .slice s.a2 s.n2 s.k2], .int .i64 1] X fun e w' => e = .returned (.int .i64 N) ∧ Below X.heap.size X w') := fun X h => by
      rw [← hN]; exact heldStoR_r X c bo go s L1 L2 HX.out.1 HX.out.2 h
    rw [hN] at gq ⊢
    clear hN
    have i0 := H9.out.2.2.2.2.1.c0
    have i1 := H9.out.2.2.2.2.1.c1
    have i2 := H9.out.2.2.2.2.1.c2
    have i3 := H9.out.2.2.2.2.1.c3
    have i4 := H9.out.2.2.2.2.1.c4
    go_wp2_with fail
    refine (HH.out _ H9.out.2.2.2.2.2).mono ?_
    rintro e0 wc ⟨rfl, hbc⟩
    have HC : Hid (Below w.heap.size w wc ∧ S4 wc w.heap.size (.int .i64 bu) (.int .i64 gu) (.slice ta tn tc) (.slice ka kn kc) ∧ S5 wc w3.heap.size (.int .i64 c) (.int .i64 bo) (.int .i64 go) (.slice r.a1 r.n1 r.k1) (.slice r.a2 r.n2 r.k2) ∧ RIn wc r L1 L2 ∧ S5 wc w5.heap.size (.int .i64 c) (.int .i64 bo) (.int .i64 go) (.slice s.a1 s.n1 s.k1) (.slice s.a2 s.n2 s.k2) ∧ RHeld wc s L1 L2) := ⟨H9.out.1.trans (hbc.mono H9.out.1.size), H9.out.2.1.keep hbc, H9.out.2.2.1.keep hbc, H9.out.2.2.2.1.keep hbc, H9.out.2.2.2.2.1.keep hbc, H9.out.2.2.2.2.2.below hbc⟩
    clear hbc H9 i0 i1 i2 i3 i4
    have y0 := HC.out.2.1.c0
    have y1 := HC.out.2.1.c1
    have y2 := HC.out.2.1.c2
    have y3 := HC.out.2.1.c3
    go_wp2_with fail
    refine (HT.out HF.out _ HC.out.1).mono ?_
    rintro r0 wd ⟨⟨J3, J4, rfl, md, _⟩, hbd⟩
    have HD : Hid (Below w.heap.size w wd ∧ S5 wd w3.heap.size (.int .i64 c) (.int .i64 bo) (.int .i64 go) (.slice r.a1 r.n1 r.k1) (.slice r.a2 r.n2 r.k2) ∧ RIn wd r L1 L2 ∧ S5 wd w5.heap.size (.int .i64 c) (.int .i64 bo) (.int .i64 go) (.slice s.a1 s.n1 s.k1) (.slice s.a2 s.n2 s.k2) ∧ RHeld wd s L1 L2 ∧ StoNew wd J3 J4 tl kl) := ⟨HC.out.1.trans (hbd.mono HC.out.1.size), HC.out.2.2.1.keep hbd, HC.out.2.2.2.1.keep hbd, HC.out.2.2.2.2.1.keep hbd, HC.out.2.2.2.2.2.below hbd, md⟩
    clear hbd HC y0 y1 y2 y3 HT md
    go_wp2_with fail
    refine (HG.out HF.out _ _ _ HD.out.1 HD.out.2.2.2.2.2).mono ?_
    rintro r0 we ⟨⟨t, rfl, ht⟩, hbe⟩
    obtain ⟨VE, hVE⟩ : ∃ V, V = we.alloc (.cells #[.int .i64 c, .int .i64 bo, .int .i64 go, .slice t.a1 t.n1 t.k1, .slice t.a2 t.n2 t.k2] 30) := ⟨_, rfl⟩
    have HVE : Hid (VE = we.alloc (.cells #[.int .i64 c, .int .i64 bo, .int .i64 go, .slice t.a1 t.n1 t.k1, .slice t.a2 t.n2 t.k2] 30)) := hVE
    have HEE : Hid (Below w.heap.size w VE ∧ S5 VE w3.heap.size (.int .i64 c) (.int .i64 bo) (.int .i64 go) (.slice r.a1 r.n1 r.k1) (.slice r.a2 r.n2 r.k2) ∧ RIn VE r L1 L2 ∧ S5 VE w5.heap.size (.int .i64 c) (.int .i64 bo) (.int .i64 go) (.slice s.a1 s.n1 s.k1) (.slice s.a2 s.n2 s.k2) ∧ RHeld VE s L1 L2 ∧ RIn VE t L1 L2) := by
      have ae : Below we.heap.size we VE := by rw [hVE]; exact (Below.refl _ _).alloc (Nat.le_refl _) _
      have be := HD.out.1.trans (hbe.mono HD.out.1.size)
      exact ⟨be.trans (ae.mono be.size), (HD.out.2.1.keep hbe).keep ae, (HD.out.2.2.1.keep hbe).keep ae, (HD.out.2.2.2.1.keep hbe).keep ae, (HD.out.2.2.2.2.1.below hbe).below ae, ht.in.keep ae⟩
    clear hbe HD HG ht hVE
    have j0 := HEE.out.2.1.c0
    have j1 := HEE.out.2.1.c1
    have j2 := HEE.out.2.1.c2
    have j3 := HEE.out.2.1.c3
    have j4 := HEE.out.2.1.c4
    rw [HVE.out] at j0 j1 j2 j3 j4
    go_wp2_with fail
    rw [← HVE.out]
    refine (HE.out _ t r HEE.out.2.2.2.2.2 HEE.out.2.2.1).mono ?_
    rintro e0 wf ⟨rfl, hbf⟩
    have HFF : Hid (Below w.heap.size w wf ∧ S5 wf w5.heap.size (.int .i64 c) (.int .i64 bo) (.int .i64 go) (.slice s.a1 s.n1 s.k1) (.slice s.a2 s.n2 s.k2) ∧ RHeld wf s L1 L2) := ⟨HEE.out.1.trans (hbf.mono HEE.out.1.size), HEE.out.2.2.2.1.keep hbf, HEE.out.2.2.2.2.1.below hbf⟩
    clear hbf HEE HE HVE j0 j1 j2 j3 j4
    have i0 := HFF.out.2.1.c0
    have i1 := HFF.out.2.1.c1
    have i2 := HFF.out.2.1.c2
    have i3 := HFF.out.2.1.c3
    have i4 := HFF.out.2.1.c4
    go_wp2_with fail
    refine (HH.out _ HFF.out.2.2).mono ?_
    rintro e0 wg ⟨rfl, hbg⟩
    have HZZ : Hid (Below w.heap.size w wg) := HFF.out.1.trans (hbg.mono HFF.out.1.size)
    clear hbg HFF HH i0 i1 i2 i3 i4
    go_wp2_with fail
    go_ret
    exact ⟨rfl, HZZ.out⟩
end Go.Proofs.YtdooopkpnanekaaGreatDoor
/-
  Facts of the program as a whole that every card of this seat leans on: each reckoned by the kernel, each by itself.
-/
namespace Go.Proofs.YtdooopkpnanekaaGreatDoor
theorem pf_laid : laidOutB Tryz.prog = true := by kernel_rfl
theorem pf_maps : mapsRowed Tryz.prog = true := by kernel_rfl
theorem pf_stops : (Tryz.prog.stops == []) = true := by kernel_rfl
theorem pf_knobs : (Tryz.prog.stopKnobs == []) = true := by kernel_rfl
theorem pf_heard : Tryz.prog.stopsHeard = true := by kernel_rfl
theorem pf_enter : Tryz.prog.mayEnter = true := by kernel_rfl
theorem pf_prog : Tryz.pinned.checked.prog = Tryz.prog := by kernel_rfl
end Go.Proofs.YtdooopkpnanekaaGreatDoor
/-
  Head lines that came in, opened.
-/
namespace Go.Proofs.YtdooopkpnanekaaGreatDoor
open Go.ChangeShapes Go.WideShapes Go.ChangeAt Go.RowKit Go.Deep
theorem headerCells : Tryz.prog.cellsOf 162 = 2 := by kernel_rfl
theorem hOneS : Tryz.prog.cellsOf 9 = 1 := by kernel_rfl
theorem hdr_of {H : Type} {enc : TypeId × Value → H} {w : World} {base : Nat} {spare : Nat → Bool} {held : Bool} {fuel : Nat} {cs : List Value} {x : DataW H × List MemPlace}
    (h : DataW.trod enc Tryz.prog w base spare held fuel 162 cs = some x) : ∃ r : Hdr, cs = [.string r.name, .string r.value] ∧ r.name.size ≤ maxLen ∧ r.value.size ≤ maxLen := by
  obtain ⟨y0, y1, n, _, hl, h0, h2⟩ := trod_struct2 Tryz.underlying162 h
  rw [headerCells] at hl
  simp only [hOneS] at h0 h2
  obtain ⟨s0, e0, _, z0⟩ := DataW.trod_string Tryz.underlying9 h0
  obtain ⟨s2, e2, _, z2⟩ := DataW.trod_string Tryz.underlying9 h2
  match cs, hl with
  | [c0, c2], _ =>
    simp only [List.drop_zero, List.take_succ_cons, List.take_zero, List.drop_succ_cons, List.cons.injEq, and_true] at e0 e2
    exact ⟨⟨s0, s2⟩, by rw [e0, e2], z0, z2⟩
theorem open_headers {H : Type} {enc : TypeId × Value → H} {w : World} {base : Nat} {spare : Nat → Bool} {held : Bool} {fuel : Nat} {a : Option Addr} {len cap : Nat} {x : DataW H × List MemPlace}
    (h : DataW.trod enc Tryz.prog w base spare held fuel 38 [.slice a len cap] = some x) :
    ∃ l : List Hdr, l.length = len ∧ len ≤ maxLen ∧ SmallHdrs l ∧ (l = [] ∨ ∃ b off, a = some ⟨b, off, none⟩ ∧ HeadsAt w b off l) := by
  rcases open_slice Tryz.underlying38 h with ⟨hcs, _⟩ | ⟨A, len', cap', m, n, D, Pl, hcs, _, hl, hm, hmm, _, hel⟩
  · simp only [List.cons.injEq, Value.slice.injEq, and_true] at hcs
    obtain ⟨_, rfl, _⟩ := hcs
    exact ⟨[], rfl, by unfold maxLen; omega, fun i r hr => by simp at hr, .inl rfl⟩
  · simp only [List.cons.injEq, Value.slice.injEq, and_true] at hcs
    obtain ⟨rfl, rfl, rfl⟩ := hcs
    have hlm : len ≤ m := by rw [hmm]; split <;> omega
    have hrec : ∀ i, i < len → ∃ r : Hdr, w.cells? base (A.add (i * 2)) 2 = some [.string r.name, .string r.value] ∧ r.name.size ≤ maxLen ∧ r.value.size ≤ maxLen := by
      intro i hi
      obtain ⟨cs', hc, ht⟩ := hel i (by omega)
      rw [headerCells] at hc
      obtain ⟨r, rfl, z⟩ := hdr_of ht
      exact ⟨r, hc, z⟩
    obtain ⟨f, hf⟩ : ∃ f : Nat → Hdr, ∀ i, i < len → w.cells? base (A.add (i * 2)) 2 = some [.string (f i).name, .string (f i).value] ∧ (f i).name.size ≤ maxLen ∧ (f i).value.size ≤ maxLen := by
      classical
      refine ⟨fun i => if hi : i < len then (hrec i hi).choose else ⟨.empty, .empty⟩, fun i hi => ?_⟩
      simp only [dif_pos hi]
      exact (hrec i hi).choose_spec
    refine ⟨(List.range len).map f, by simp, by omega, ?_, ?_⟩
    · intro i r hr
      rw [List.getElem?_map] at hr
      obtain ⟨j, hj, rfl⟩ := Option.map_eq_some_iff.1 hr
      obtain ⟨hlt, rfl⟩ := List.getElem?_eq_some_iff.1 hj
      simp at hlt
      simpa using (hf i hlt).2
    · by_cases h0 : len = 0
      · subst h0; exact .inl rfl
      · obtain ⟨b, off, spot⟩ := A
        have cells : ∀ i, i < len → ∀ j, j < 2 → w.cell? ((⟨b, off, spot⟩ : Addr).add (i * 2 + j)) = ([.string (f i).name, .string (f i).value] : List Value)[j]? := by
          intro i hi j hj
          have c := (World.cells?_some (hf i hi).1).2.2 j hj
          rw [add_add] at c
          exact c
        have hs : spot = none := by
          have c := cells 0 (by omega) 0 (by omega)
          simp only [Nat.zero_mul, Nat.add_zero, List.getElem?_cons_zero] at c
          simpa [Addr.add] using World.cell?_spot c
        subst hs
        have hadd : ∀ i, (⟨b, off, none⟩ : Addr).add i = ⟨b, off + i, none⟩ := fun i => by unfold Addr.add; split <;> simp_all
        refine .inr ⟨b, off, rfl, fun i r hr => ?_⟩
        rw [List.getElem?_map] at hr
        obtain ⟨j, hj, rfl⟩ := Option.map_eq_some_iff.1 hr
        obtain ⟨hlt, rfl⟩ := List.getElem?_eq_some_iff.1 hj
        simp only [List.length_range] at hlt
        simp only [List.getElem_range]
        have q0 := cells i hlt 0 (by omega)
        have q1 := cells i hlt 1 (by omega)
        rw [hadd] at q0 q1
        exact ⟨by simpa using q0, by simpa [Nat.add_assoc] using q1⟩
end Go.Proofs.YtdooopkpnanekaaGreatDoor
/-
  A request and a response that came in by value, opened.
-/
namespace Go.Proofs.YtdooopkpnanekaaGreatDoor
open Go.ChangeShapes Go.WideShapes Go.ChangeAt Go.RowKit Go.Deep
theorem headsOne : Tryz.prog.cellsOf 38 = 1 := by kernel_rfl
theorem slice_cs {H : Type} {enc : TypeId × Value → H} {w : World} {base : Nat} {spare : Nat → Bool} {held : Bool} {fuel : Nat} {cs : List Value} {t e : TypeId} {x : DataW H × List MemPlace}
    (hu : Tryz.prog.underlying t = some (.slice e)) (h : DataW.trod enc Tryz.prog w base spare held fuel t cs = some x) : ∃ a len cap, cs = [.slice a len cap] := by
  rcases open_slice hu h with ⟨hcs, _⟩ | ⟨A, len', cap', m, n, D, Pl, hcs, _⟩
  · exact ⟨_, _, _, hcs⟩
  · exact ⟨_, _, _, hcs⟩
end Go.Proofs.YtdooopkpnanekaaGreatDoor
/-
  A response, a row of bytes, a list of texts that came in, opened.
-/
namespace Go.Proofs.YtdooopkpnanekaaGreatDoor
open Go.ChangeShapes Go.WideShapes Go.ChangeAt Go.RowKit Go.Deep
theorem bytesOne : Tryz.prog.cellsOf 5 = 1 := by kernel_rfl
theorem open_bytes {H : Type} {enc : TypeId × Value → H} {w : World} {base : Nat} {spare : Nat → Bool} {held : Bool} {fuel : Nat} {a : Option Addr} {len cap : Nat} {x : DataW H × List MemPlace}
    (h : DataW.trod enc Tryz.prog w base spare held fuel 39 [.slice a len cap] = some x) : ∃ l : List UInt8, l.length = len ∧ len ≤ maxLen ∧ BIn w a l := by
  rcases open_ints Tryz.underlying39 Tryz.underlying5 bytesOne h with ⟨hcs, _⟩ | ⟨A, l', c', zs, hcs, _, hl, hm, hz, _, hcell, hwz⟩
  · simp only [List.cons.injEq, Value.slice.injEq, and_true] at hcs
    obtain ⟨_, rfl, _⟩ := hcs
    exact ⟨[], rfl, by unfold maxLen; omega, .inl rfl⟩
  · simp only [List.cons.injEq, Value.slice.injEq, and_true] at hcs
    obtain ⟨rfl, rfl, rfl⟩ := hcs
    have hlz : len ≤ zs.length := by rw [hz]; split <;> omega
    refine ⟨(zs.take len).map fun z => UInt8.ofNat z.toNat, by simp; omega, by omega, ?_⟩
    by_cases h0 : len = 0
    · subst h0; exact .inl rfl
    · obtain ⟨b, off, spot⟩ := A
      have hc := hcell 0 (by omega)
      have hspot : spot = none := by simpa [Addr.add] using World.cell?_spot hc
      subst hspot
      have hadd : ∀ i, (⟨b, off, none⟩ : Addr).add i = ⟨b, off + i, none⟩ := fun i => by unfold Addr.add; split <;> simp_all
      refine .inr ⟨b, off, rfl, fun i c hr => ?_⟩
      rw [List.getElem?_map] at hr
      obtain ⟨z, hz1, rfl⟩ := Option.map_eq_some_iff.1 hr
      have hi : i < len := by have := (List.getElem?_eq_some_iff.1 hz1).1; simp at this; omega
      rw [List.getElem?_take_of_lt hi] at hz1
      have h1 := hcell i (by omega)
      rw [hadd, List.getD_eq_getElem?_getD, hz1] at h1
      rw [h1]
      have hw := hwz z (List.mem_of_getElem? hz1)
      simp only [Lit.wf, Bool.and_eq_true, decide_eq_true_eq] at hw
      have w1 : 0 ≤ z := hw.1
      have w2 : z ≤ 255 := hw.2
      have e : ((UInt8.ofNat z.toNat).toNat : Int) = z := by
        rw [UInt8.toNat_ofNat']
        omega
      rw [e]; rfl
theorem byteSOne : Tryz.prog.cellsOf 39 = 1 := by kernel_rfl
theorem intOne : Tryz.prog.cellsOf 2 = 1 := by kernel_rfl
end Go.Proofs.YtdooopkpnanekaaGreatDoor
/-
  A list of texts that came in, opened.
-/
namespace Go.Proofs.YtdooopkpnanekaaGreatDoor
open Go.ChangeShapes Go.WideShapes Go.ChangeAt Go.RowKit Go.Deep
theorem textOne : Tryz.prog.cellsOf 9 = 1 := by kernel_rfl
theorem open_texts {H : Type} {enc : TypeId × Value → H} {w : World} {base : Nat} {spare : Nat → Bool} {held : Bool} {fuel : Nat} {a : Option Addr} {len cap : Nat} {x : DataW H × List MemPlace}
    (h : DataW.trod enc Tryz.prog w base spare held fuel 42 [.slice a len cap] = some x) : ∃ l : List ByteArray, l.length = len ∧ len ≤ maxLen ∧ (∀ x ∈ l, x.size ≤ maxLen) ∧ TIn w a l := by
  rcases open_slice Tryz.underlying42 h with ⟨hcs, _⟩ | ⟨A, len', cap', m, n, D, Pl, hcs, _, hl, hm, hmm, _, hel⟩
  · simp only [List.cons.injEq, Value.slice.injEq, and_true] at hcs
    obtain ⟨_, rfl, _⟩ := hcs
    exact ⟨[], rfl, by unfold maxLen; omega, (fun x hx => by cases hx), .inl rfl⟩
  · simp only [List.cons.injEq, Value.slice.injEq, and_true] at hcs
    obtain ⟨rfl, rfl, rfl⟩ := hcs
    have hlm : len ≤ m := by rw [hmm]; split <;> omega
    have hrec : ∀ i, i < len → ∃ r : ByteArray, w.cells? base (A.add (i * 1)) 1 = some [.string r] ∧ r.size ≤ maxLen := by
      intro i hi
      obtain ⟨cs', hc, ht⟩ := hel i (by omega)
      rw [textOne] at hc
      obtain ⟨r, e, _, z⟩ := DataW.trod_string Tryz.underlying9 ht
      exact ⟨r, by rw [hc, e], z⟩
    obtain ⟨f, hf⟩ : ∃ f : Nat → ByteArray, ∀ i, i < len → w.cells? base (A.add (i * 1)) 1 = some [.string (f i)] ∧ (f i).size ≤ maxLen := by
      classical
      refine ⟨fun i => if hi : i < len then (hrec i hi).choose else .empty, fun i hi => ?_⟩
      simp only [dif_pos hi]
      exact (hrec i hi).choose_spec
    refine ⟨(List.range len).map f, by simp, by omega, ?_, ?_⟩
    · intro x hx
      obtain ⟨i, hi, rfl⟩ := List.mem_map.1 hx
      exact (hf i (by simpa using hi)).2
    · by_cases h0 : len = 0
      · subst h0; exact .inl rfl
      · obtain ⟨b, off, spot⟩ := A
        have cells : ∀ i, i < len → w.cell? ((⟨b, off, spot⟩ : Addr).add i) = some (.string (f i)) := by
          intro i hi
          have c := (World.cells?_some (hf i hi).1).2.2 0 (by omega)
          rw [add_add] at c
          simpa using c
        have hs : spot = none := by
          have c := cells 0 (by omega)
          simpa [Addr.add] using World.cell?_spot c
        subst hs
        have hadd : ∀ i, (⟨b, off, none⟩ : Addr).add i = ⟨b, off + i, none⟩ := fun i => by unfold Addr.add; split <;> simp_all
        refine .inr ⟨b, off, rfl, fun i r hr => ?_⟩
        rw [List.getElem?_map] at hr
        obtain ⟨j, hj, rfl⟩ := Option.map_eq_some_iff.1 hr
        obtain ⟨hlt, rfl⟩ := List.getElem?_eq_some_iff.1 hj
        simp only [List.length_range] at hlt
        simp only [List.getElem_range]
        have q0 := cells i hlt
        rw [hadd] at q0
        exact q0
end Go.Proofs.YtdooopkpnanekaaGreatDoor
/-
  What is kept with an answer, as it came in by value, opened.
-/
namespace Go.Proofs.YtdooopkpnanekaaGreatDoor
open Go.ChangeShapes Go.WideShapes Go.ChangeAt Go.RowKit
theorem metaCells : Tryz.prog.cellsOf 41 = 7 := by kernel_rfl
theorem oneIm : Tryz.prog.cellsOf 2 = 1 := by kernel_rfl
theorem oneBm : Tryz.prog.cellsOf 4 = 1 := by kernel_rfl
set_option maxRecDepth 100000 in
theorem open_meta {H : Type} {enc : TypeId × Value → H} {w : World} {r : Reach} {b0 base : Nat} {spare : Nat → Bool} {held : Bool} {v : Value} {d : DataW H} {p : List MemPlace}
    (hv : Value.okWide Tryz.prog w r b0 41 v) (h : DataW.Trod enc Tryz.prog w base spare held 41 v d p) :
    ∃ (u : Int × Int × Int × Int × Int) (t : Bool × Bool), v = .agg #[.int .i64 u.1, .int .i64 u.2.1, .int .i64 u.2.2.1, .int .i64 u.2.2.2.1, .int .i64 u.2.2.2.2, .bool t.1, .bool t.2] := by
  obtain ⟨cs, rfl, hsz⟩ := okWide_struct Tryz.underlying41 hv
  obtain ⟨fuel, hf0⟩ := h
  obtain ⟨xs, n, _, _, hl, hlen, hf⟩ := DataW.trod_struct Tryz.underlying41 hf0
  match xs, hlen with
  | [y0, y1, y2, y3, y4, y5, y6], _ =>
    have h0 : DataW.trod enc Tryz.prog w base spare held n 2 (((Value.agg cs).cells.toList.drop 0).take (Tryz.prog.cellsOf 2)) = some y0 := hf 0 _ rfl
    have h1 : DataW.trod enc Tryz.prog w base spare held n 2 (((Value.agg cs).cells.toList.drop 1).take (Tryz.prog.cellsOf 2)) = some y1 := hf 1 _ rfl
    have h2 : DataW.trod enc Tryz.prog w base spare held n 2 (((Value.agg cs).cells.toList.drop 2).take (Tryz.prog.cellsOf 2)) = some y2 := hf 2 _ rfl
    have h3 : DataW.trod enc Tryz.prog w base spare held n 2 (((Value.agg cs).cells.toList.drop 3).take (Tryz.prog.cellsOf 2)) = some y3 := hf 3 _ rfl
    have h4 : DataW.trod enc Tryz.prog w base spare held n 2 (((Value.agg cs).cells.toList.drop 4).take (Tryz.prog.cellsOf 2)) = some y4 := hf 4 _ rfl
    have h5 : DataW.trod enc Tryz.prog w base spare held n 4 (((Value.agg cs).cells.toList.drop 5).take (Tryz.prog.cellsOf 4)) = some y5 := hf 5 _ rfl
    have h6 : DataW.trod enc Tryz.prog w base spare held n 4 (((Value.agg cs).cells.toList.drop 6).take (Tryz.prog.cellsOf 4)) = some y6 := hf 6 _ rfl
    rw [oneIm] at h0 h1 h2 h3 h4
    rw [oneBm] at h5 h6
    obtain ⟨s0, e0, _⟩ := DataW.trod_int Tryz.underlying2 h0
    obtain ⟨s1, e1, _⟩ := DataW.trod_int Tryz.underlying2 h1
    obtain ⟨s2, e2, _⟩ := DataW.trod_int Tryz.underlying2 h2
    obtain ⟨s3, e3, _⟩ := DataW.trod_int Tryz.underlying2 h3
    obtain ⟨s4, e4, _⟩ := DataW.trod_int Tryz.underlying2 h4
    obtain ⟨s5, e5, _⟩ := DataW.trod_bool Tryz.underlying4 h5
    obtain ⟨s6, e6, _⟩ := DataW.trod_bool Tryz.underlying4 h6
    refine ⟨(s0, s1, s2, s3, s4), (s5, s6), ?_⟩
    have e : cs.toList = [.int .i64 s0, .int .i64 s1, .int .i64 s2, .int .i64 s3, .int .i64 s4, .bool s5, .bool s6] := by
      simp only [Value.cells] at e0 e1 e2 e3 e4 e5 e6 hl
      rw [metaCells] at hl
      match hc : cs.toList, hl with
      | [c0, c1, c2, c3, c4, c5, c6], _ =>
        rw [hc] at e0 e1 e2 e3 e4 e5 e6
        simp only [List.drop_zero, List.take_succ_cons, List.take_zero, List.drop_succ_cons, List.cons.injEq, and_true] at e0 e1 e2 e3 e4 e5 e6
        rw [e0, e1, e2, e3, e4, e5, e6]
    congr 1
    exact Array.toList_inj.1 e
end Go.Proofs.YtdooopkpnanekaaGreatDoor
/-
  An entry that came in, and entries, opened.
-/
namespace Go.Proofs.YtdooopkpnanekaaGreatDoor
open Go.ChangeShapes Go.WideShapes Go.ChangeAt Go.RowKit Go.Deep
theorem entCells : Tryz.prog.cellsOf 44 = 13 := by kernel_rfl
theorem eOneS : Tryz.prog.cellsOf 9 = 1 := by kernel_rfl
theorem eOneI : Tryz.prog.cellsOf 2 = 1 := by kernel_rfl
theorem eOneB : Tryz.prog.cellsOf 4 = 1 := by kernel_rfl
theorem eOneH : Tryz.prog.cellsOf 38 = 1 := by kernel_rfl
theorem eOneU : Tryz.prog.cellsOf 39 = 1 := by kernel_rfl
theorem eOneT : Tryz.prog.cellsOf 42 = 1 := by kernel_rfl
theorem eMeta : Tryz.prog.cellsOf 41 = 7 := by kernel_rfl
theorem slice_cap {H : Type} {enc : TypeId × Value → H} {P : Program} {w : World} {base : Nat} {spare : Nat → Bool} {held : Bool} {fuel : Nat} {t e : TypeId} {a : Option Addr} {n c : Nat} {x : DataW H × List MemPlace} (ht : P.underlying t = some (.slice e))
    (h : DataW.trod enc P w base spare held fuel t [.slice a n c] = some x) : n ≤ c := by
  rcases open_slice ht h with ⟨hcs, _⟩ | ⟨A, len', cap', m, n', D, Pl, hcs, _, hl, _⟩
  · simp only [List.cons.injEq, Value.slice.injEq, and_true] at hcs
    omega
  · simp only [List.cons.injEq, Value.slice.injEq, and_true] at hcs
    omega
set_option maxRecDepth 100000 in
theorem meta_cs {H : Type} {enc : TypeId × Value → H} {w : World} {base : Nat} {spare : Nat → Bool} {held : Bool} {fuel : Nat} {cs : List Value} {x : DataW H × List MemPlace}
    (h : DataW.trod enc Tryz.prog w base spare held fuel 41 cs = some x) : ∃ (t g l s e : Int) (b1 b2 : Bool), cs = [.int .i64 t, .int .i64 g, .int .i64 l, .int .i64 s, .int .i64 e, .bool b1, .bool b2] := by
  obtain ⟨xs, n, _, _, hl, hlen, hf⟩ := DataW.trod_struct Tryz.underlying41 h
  match xs, hlen with
  | [y0, y1, y2, y3, y4, y5, y6], _ =>
    have h0 : DataW.trod enc Tryz.prog w base spare held n 2 ((cs.drop 0).take (Tryz.prog.cellsOf 2)) = some y0 := hf 0 _ rfl
    have h1 : DataW.trod enc Tryz.prog w base spare held n 2 ((cs.drop 1).take (Tryz.prog.cellsOf 2)) = some y1 := hf 1 _ rfl
    have h2 : DataW.trod enc Tryz.prog w base spare held n 2 ((cs.drop 2).take (Tryz.prog.cellsOf 2)) = some y2 := hf 2 _ rfl
    have h3 : DataW.trod enc Tryz.prog w base spare held n 2 ((cs.drop 3).take (Tryz.prog.cellsOf 2)) = some y3 := hf 3 _ rfl
    have h4 : DataW.trod enc Tryz.prog w base spare held n 2 ((cs.drop 4).take (Tryz.prog.cellsOf 2)) = some y4 := hf 4 _ rfl
    have h5 : DataW.trod enc Tryz.prog w base spare held n 4 ((cs.drop 5).take (Tryz.prog.cellsOf 4)) = some y5 := hf 5 _ rfl
    have h6 : DataW.trod enc Tryz.prog w base spare held n 4 ((cs.drop 6).take (Tryz.prog.cellsOf 4)) = some y6 := hf 6 _ rfl
    rw [eOneI] at h0 h1 h2 h3 h4
    rw [eOneB] at h5 h6
    obtain ⟨s0, e0, _⟩ := DataW.trod_int Tryz.underlying2 h0
    obtain ⟨s1, e1, _⟩ := DataW.trod_int Tryz.underlying2 h1
    obtain ⟨s2, e2, _⟩ := DataW.trod_int Tryz.underlying2 h2
    obtain ⟨s3, e3, _⟩ := DataW.trod_int Tryz.underlying2 h3
    obtain ⟨s4, e4, _⟩ := DataW.trod_int Tryz.underlying2 h4
    obtain ⟨s5, e5, _⟩ := DataW.trod_bool Tryz.underlying4 h5
    obtain ⟨s6, e6, _⟩ := DataW.trod_bool Tryz.underlying4 h6
    refine ⟨s0, s1, s2, s3, s4, s5, s6, ?_⟩
    rw [eMeta] at hl
    match cs, hl with
    | [c0, c1, c2, c3, c4, c5, c6], _ =>
      simp only [List.drop_zero, List.take_succ_cons, List.take_zero, List.drop_succ_cons, List.cons.injEq, and_true] at e0 e1 e2 e3 e4 e5 e6
      rw [e0, e1, e2, e3, e4, e5, e6]
set_option maxRecDepth 100000 in
theorem ent_of {H : Type} {enc : TypeId × Value → H} {w : World} {base : Nat} {spare : Nat → Bool} {held : Bool} {fuel : Nat} {cs : List Value} {x : DataW H × List MemPlace}
    (h : DataW.trod enc Tryz.prog w base spare held fuel 44 cs = some x) : ∃ (q : Ent) (r : EntR), cs = entW q r ∧ EntIn w q r ∧ EntSm q := by
  obtain ⟨xs, n, _, _, hl, hlen, hf⟩ := DataW.trod_struct Tryz.underlying44 h
  match xs, hlen with
  | [y0, y1, y2, y3, y4, y5, y6], _ =>
    have h0 : DataW.trod enc Tryz.prog w base spare held n 9 ((cs.drop 0).take (Tryz.prog.cellsOf 9)) = some y0 := hf 0 _ rfl
    have h1 : DataW.trod enc Tryz.prog w base spare held n 2 ((cs.drop 1).take (Tryz.prog.cellsOf 2)) = some y1 := hf 1 _ rfl
    have h2 : DataW.trod enc Tryz.prog w base spare held n 38 ((cs.drop 2).take (Tryz.prog.cellsOf 38)) = some y2 := hf 2 _ rfl
    have h3 : DataW.trod enc Tryz.prog w base spare held n 39 ((cs.drop 3).take (Tryz.prog.cellsOf 39)) = some y3 := hf 3 _ rfl
    have h4 : DataW.trod enc Tryz.prog w base spare held n 41 ((cs.drop 4).take (Tryz.prog.cellsOf 41)) = some y4 := hf 4 _ rfl
    have h5 : DataW.trod enc Tryz.prog w base spare held n 42 ((cs.drop 11).take (Tryz.prog.cellsOf 42)) = some y5 := hf 5 _ rfl
    have h6 : DataW.trod enc Tryz.prog w base spare held n 2 ((cs.drop 12).take (Tryz.prog.cellsOf 2)) = some y6 := hf 6 _ rfl
    rw [eOneS] at h0
    rw [eOneI] at h1 h6
    rw [eOneH] at h2
    rw [eOneU] at h3
    rw [eMeta] at h4
    rw [eOneT] at h5
    obtain ⟨s0, e0, _, z0⟩ := DataW.trod_string Tryz.underlying9 h0
    obtain ⟨s1, e1, _⟩ := DataW.trod_int Tryz.underlying2 h1
    obtain ⟨ha, hn, hc, e2⟩ := slice_cs Tryz.underlying38 h2
    rw [e2] at h2
    obtain ⟨l, rfl, m2, sm2, o2⟩ := open_headers h2
    obtain ⟨ba, bn, bc, e3⟩ := slice_cs Tryz.underlying39 h3
    rw [e3] at h3
    obtain ⟨bl, rfl, m3, o3⟩ := open_bytes h3
    obtain ⟨t, g, li, s, e, b1, b2, e4⟩ := meta_cs h4
    obtain ⟨ta, tn, tc, e5⟩ := slice_cs Tryz.underlying42 h5
    rw [e5] at h5
    obtain ⟨ts, rfl, m5, sm5, o5⟩ := open_texts h5
    obtain ⟨s6, e6, _⟩ := DataW.trod_int Tryz.underlying2 h6
    refine ⟨⟨s0, s1, l, bl, t, g, li, s, e, b1, b2, ts, s6⟩, ⟨ha, hc, ba, bc, ta, tc⟩, ?_, ⟨o2, o3, o5, slice_cap Tryz.underlying38 h2, slice_cap Tryz.underlying39 h3, slice_cap Tryz.underlying42 h5⟩, ⟨z0, m2, sm2, m3, m5, sm5⟩⟩
    rw [entCells] at hl
    match cs, hl with
    | [c0, c1, c2, c3, c4, c5, c6, c7, c8, c9, c10, c11, c12], _ =>
      simp only [List.drop_zero, List.take_succ_cons, List.take_zero, List.drop_succ_cons, List.cons.injEq, and_true] at e0 e1 e2 e3 e4 e5 e6
      obtain ⟨f4, f5, f6, f7, f8, f9, f10⟩ := e4
      rw [e0, e1, e2, e3, f4, f5, f6, f7, f8, f9, f10, e5, e6]
      rfl
set_option maxRecDepth 100000 in
theorem open_entry {H : Type} {enc : TypeId × Value → H} {w : World} {r : Reach} {b0 base : Nat} {spare : Nat → Bool} {held : Bool} {v : Value} {d : DataW H} {p : List MemPlace}
    (hv : Value.okWide Tryz.prog w r b0 44 v) (h : DataW.Trod enc Tryz.prog w base spare held 44 v d p) : ∃ (q : Ent) (r : EntR), v = entV q r ∧ EntIn w q r ∧ EntSm q := by
  obtain ⟨cs, rfl, hsz⟩ := okWide_struct Tryz.underlying44 hv
  obtain ⟨fuel, hf0⟩ := h
  obtain ⟨q, r, e, h1, h2⟩ := ent_of hf0
  refine ⟨q, r, ?_, h1, h2⟩
  simp only [Value.cells] at e
  show Value.agg cs = .agg _
  congr 1
  exact Array.toList_inj.1 e
set_option maxRecDepth 100000 in
theorem open_entries {H : Type} {enc : TypeId × Value → H} {w : World} {base : Nat} {spare : Nat → Bool} {held : Bool} {fuel : Nat} {a : Option Addr} {len cap : Nat} {x : DataW H × List MemPlace}
    (h : DataW.trod enc Tryz.prog w base spare held fuel 22 [.slice a len cap] = some x) :
    ∃ l : List (Ent × EntR), l.length = len ∧ len ≤ maxLen ∧ len ≤ cap ∧ (∀ q ∈ l, EntSm q.1) ∧ EntsIn w a l := by
  have hcap := slice_cap Tryz.underlying22 h
  rcases open_slice Tryz.underlying22 h with ⟨hcs, _⟩ | ⟨A, len', cap', m, n, D, Pl, hcs, _, hl, hm, hmm, _, hel⟩
  · simp only [List.cons.injEq, Value.slice.injEq, and_true] at hcs
    obtain ⟨_, rfl, _⟩ := hcs
    exact ⟨[], rfl, by unfold maxLen; omega, hcap, fun q hq => by simp at hq, .inl rfl⟩
  · simp only [List.cons.injEq, Value.slice.injEq, and_true] at hcs
    obtain ⟨rfl, rfl, rfl⟩ := hcs
    have hlm : len ≤ m := by rw [hmm]; split <;> omega
    have hrec : ∀ i, i < len → ∃ q : Ent × EntR, w.cells? base (A.add (i * 13)) 13 = some (entW q.1 q.2) ∧ EntIn w q.1 q.2 ∧ EntSm q.1 := by
      intro i hi
      obtain ⟨cs', hc, ht⟩ := hel i (by omega)
      rw [entCells] at hc
      obtain ⟨q, r, rfl, z⟩ := ent_of ht
      exact ⟨(q, r), hc, z⟩
    obtain ⟨f, hf⟩ : ∃ f : Nat → Ent × EntR, ∀ i, i < len → w.cells? base (A.add (i * 13)) 13 = some (entW (f i).1 (f i).2) ∧ EntIn w (f i).1 (f i).2 ∧ EntSm (f i).1 := by
      classical
      refine ⟨fun i => if hi : i < len then (hrec i hi).choose else (⟨.empty, 0, [], [], 0, 0, 0, 0, 0, false, false, [], 0⟩, ⟨none, 0, none, 0, none, 0⟩), fun i hi => ?_⟩
      simp only [dif_pos hi]
      exact (hrec i hi).choose_spec
    refine ⟨(List.range len).map f, by simp, by omega, hcap, ?_, ?_⟩
    · intro q hq
      obtain ⟨i, hi, rfl⟩ := List.mem_map.1 hq
      exact (hf i (by simpa using hi)).2.2
    · by_cases h0 : len = 0
      · subst h0; exact .inl rfl
      · obtain ⟨b, off, spot⟩ := A
        have cells : ∀ i, i < len → ∀ j, j < 13 → w.cell? ((⟨b, off, spot⟩ : Addr).add (i * 13 + j)) = (entW (f i).1 (f i).2)[j]? := by
          intro i hi j hj
          have c := (World.cells?_some (hf i hi).1).2.2 j hj
          rw [add_add] at c
          exact c
        have hs : spot = none := by
          have c := cells 0 (by omega) 0 (by omega)
          simp only [Nat.zero_mul, Nat.add_zero, entW, List.getElem?_cons_zero] at c
          simpa [Addr.add] using World.cell?_spot c
        subst hs
        have hadd : ∀ i, (⟨b, off, none⟩ : Addr).add i = ⟨b, off + i, none⟩ := fun i => by unfold Addr.add; split <;> simp_all
        refine .inr ⟨b, off, rfl, fun i q hq => ?_⟩
        rw [List.getElem?_map] at hq
        obtain ⟨j, hj, rfl⟩ := Option.map_eq_some_iff.1 hq
        obtain ⟨hlt, rfl⟩ := List.getElem?_eq_some_iff.1 hj
        simp only [List.length_range] at hlt
        simp only [List.getElem_range]
        refine ⟨fun j hj => ?_, (hf i hlt).2.1⟩
        have q0 := cells i hlt j hj
        rw [hadd, ← Nat.add_assoc] at q0
        exact q0
end Go.Proofs.YtdooopkpnanekaaGreatDoor
/-
  A store that came in, opened.
-/
namespace Go.Proofs.YtdooopkpnanekaaGreatDoor
open Go.ChangeShapes Go.WideShapes Go.ChangeAt Go.RowKit Go.Deep
theorem stoCells : Tryz.prog.cellsOf 24 = 4 := by kernel_rfl
theorem eOneE : Tryz.prog.cellsOf 22 = 1 := by kernel_rfl
set_option maxRecDepth 100000 in
theorem open_store {H : Type} {enc : TypeId × Value → H} {w : World} {r : Reach} {b0 base : Nat} {spare : Nat → Bool} {held : Bool} {v : Value} {d : DataW H} {p : List MemPlace}
    (hv : Value.okWide Tryz.prog w r b0 24 v) (h : DataW.Trod enc Tryz.prog w base spare held 24 v d p) : ∃ (bu gu : Int) (ta ka : Option Addr) (tc kc : Nat) (tl kl : List (Ent × EntR)), v = .agg #[.int .i64 bu, .int .i64 gu, .slice ta tl.length tc, .slice ka kl.length kc] ∧ StoArg w ta ka tl kl := by
  obtain ⟨cs, rfl, hsz⟩ := okWide_struct Tryz.underlying24 hv
  obtain ⟨fuel, hf0⟩ := h
  obtain ⟨xs, n, _, _, hl, hlen, hf⟩ := DataW.trod_struct Tryz.underlying24 hf0
  match xs, hlen with
  | [y0, y1, y2, y3], _ =>
    have h0 : DataW.trod enc Tryz.prog w base spare held n 2 ((cs.toList.drop 0).take (Tryz.prog.cellsOf 2)) = some y0 := hf 0 _ rfl
    have h1 : DataW.trod enc Tryz.prog w base spare held n 2 ((cs.toList.drop 1).take (Tryz.prog.cellsOf 2)) = some y1 := hf 1 _ rfl
    have h2 : DataW.trod enc Tryz.prog w base spare held n 22 ((cs.toList.drop 2).take (Tryz.prog.cellsOf 22)) = some y2 := hf 2 _ rfl
    have h3 : DataW.trod enc Tryz.prog w base spare held n 22 ((cs.toList.drop 3).take (Tryz.prog.cellsOf 22)) = some y3 := hf 3 _ rfl
    rw [eOneI] at h0 h1
    rw [eOneE] at h2 h3
    obtain ⟨s0, e0, _⟩ := DataW.trod_int Tryz.underlying2 h0
    obtain ⟨s1, e1, _⟩ := DataW.trod_int Tryz.underlying2 h1
    obtain ⟨ta, tn, tc, e2⟩ := slice_cs Tryz.underlying22 h2
    rw [e2] at h2
    obtain ⟨tl, rfl, m2, _, sm2, o2⟩ := open_entries h2
    obtain ⟨ka, kn, kc, e3⟩ := slice_cs Tryz.underlying22 h3
    rw [e3] at h3
    obtain ⟨kl, rfl, m3, _, sm3, o3⟩ := open_entries h3
    refine ⟨s0, s1, ta, ka, tc, kc, tl, kl, ?_, ⟨o2, o3, m2, m3, sm2, sm3⟩⟩
    have hl' : cs.toList.length = 4 := by rw [stoCells] at hl; exact hl
    have key : cs.toList = [.int .i64 s0, .int .i64 s1, .slice ta tl.length tc, .slice ka kl.length kc] := by
      generalize cs.toList = c at *
      match c, hl' with
      | [c0, c1, c2, c3], _ =>
        simp only [List.drop_zero, List.take_succ_cons, List.take_zero, List.drop_succ_cons, List.cons.injEq, and_true] at e0 e1 e2 e3
        rw [e0, e1, e2, e3]
    show Value.agg cs = .agg _
    congr 1
    exact Array.toList_inj.1 key
end Go.Proofs.YtdooopkpnanekaaGreatDoor
