/-
  Texts of one claim, one behind the other.
-/
import Derived.Deep.AppendLies
import Derived.Deep.RegionHeld3
import Derived.Laws.CopyRow
import Derived.Laws.NewBlocks
import Derived.Lib.AppendZerosOnto
import Derived.Lib.Overlaps
import Derived.Lib.SliceRun
import Derived.Lib.Walk
import Derived.StillTail
import Derived.StillTailTactics
import Derived.Test.YtdooopkpnanekaaGreatDoorMgC
/-
  Is it a store? The program's answer.
-/
namespace Go.Proofs.YtdooopkpnanekaaGreatDoor
open Go.ChangeShapes Go.WideShapes Go.ChangeAt Go.RowKit Go.Sort
theorem implEntry_h (w : World) (h : Hdl) (hset : SetIs w) (ho : EntOk h.x) (ht : HThere w h) :
    Calls Tryz.prog 31 #[.agg #[.string h.x.key, .int .i64 h.x.st, .slice h.r.ha h.x.hs.length h.r.hc, .slice h.r.ba h.x.bl.length h.r.bc, .int .i64 h.x.t, .int .i64 h.x.g, .int .i64 h.x.l, .int .i64 h.x.s, .int .i64 h.x.e, .bool h.x.b1, .bool h.x.b2, .slice h.r.ta h.x.ts.length h.r.tc, .int .i64 h.x.pins]] w fun r w' => r = .returned (.int .i64 (entC h.x)) ∧ Below w.heap.size w w' :=
  implEntry_any w _ _ _ _ _ _ _ _ _ _ _ _ _ _ _ _ _ _ _ ho.key ho.h ho.b ho.t hset ht.2.h
theorem faultE_dropH {l : List Hdl} {k : Nat} {q : Hdl} (h : l[k]? = some q) : faultE ((l.map Hdl.x).drop k) = if entC q.x ≠ 0 then entC q.x else faultE ((l.map Hdl.x).drop (k + 1)) := by
  obtain ⟨hk, rfl⟩ := List.getElem?_eq_some_iff.1 h
  rw [List.drop_eq_getElem_cons (i := k) (by simpa using hk), faultE]
  simp
set_option maxRecDepth 100000 in
set_option maxHeartbeats 16000000 in
theorem implSto_any (w : World) (bu gu : Int) (ta ka : Option Addr) (tc kc : Nat) (tl kl : List (Ent × EntR)) (hset : SetIs w) (hl : tl.length ≤ 1048576) (hk : kl.length ≤ 1048576) (hto : ∀ q ∈ tl ++ kl, EntOk q.1) (ht : EntsIn w ta tl) (hq : EntsIn w ka kl) :
    Calls Tryz.prog 29 #[.agg #[.int .i64 bu, .int .i64 gu, .slice ta tl.length tc, .slice ka kl.length kc]] w fun r w' => r = .returned (.int .i64 (storeC bu gu (tl.map Prod.fst) (kl.map Prod.fst))) ∧ Below w.heap.size w w' := by
  obtain ⟨W, hW⟩ : ∃ W, W = w.alloc (.cells #[.int .i64 bu, .int .i64 gu, .slice ta tl.length tc, .slice ka kl.length kc] 28) := ⟨_, rfl⟩
  have HW : Hid (W = w.alloc (.cells #[.int .i64 bu, .int .i64 gu, .slice ta tl.length tc, .slice ka kl.length kc] 28)) := hW
  have K0 : Hid (Below w.heap.size w W ∧ S4 W w.heap.size (.int .i64 bu) (.int .i64 gu) (.slice ta tl.length tc) (.slice ka kl.length kc)) := by
    rw [hW]; exact ⟨(Below.refl _ _).alloc (Nat.le_refl _) _, S4.new w _ _ _ _ _⟩
  obtain ⟨H1, hH1⟩ : ∃ H, hdlsA ta tl = H := ⟨_, rfl⟩
  obtain ⟨H2, hH2⟩ : ∃ H, hdlsA ka kl = H := ⟨_, rfl⟩
  have e1 : H1.map Hdl.x = tl.map Prod.fst := by rw [← hH1]; exact hdlsA_x ta tl
  have e2 : H2.map Hdl.x = kl.map Prod.fst := by rw [← hH2]; exact hdlsA_x ka kl
  have l1 : H1.length = tl.length := by rw [← hH1]; exact hdlsA_len ta tl
  have l2 : H2.length = kl.length := by rw [← hH2]; exact hdlsA_len ka kl
  have HSH : Hid (Calls Tryz.prog 56 #[.agg #[.int .i64 bu, .int .i64 gu, .slice ta tl.length tc, .slice ka kl.length kc]] W fun e w' => (∃ v1 v2, e = .returned (.agg #[v1, v2]) ∧ TwoP w' W.heap.size v1 v2 H1 H2) ∧ Below W.heap.size W w') := by
    have := shelvesOf_any W bu gu ta ka tc kc tl kl hl hk (ht.keep K0.out.1) (hq.keep K0.out.1)
    rw [hH1, hH2] at this
    exact this
  have HTH : Hid (∀ X, Below w.heap.size w X → ∀ h ∈ H1 ++ H2, HThere X h) := fun X hX h hh => by
    rcases List.mem_append.1 hh with hh | hh
    · rw [← hH1] at hh; exact hdlsA_there (ht.keep hX) h hh
    · rw [← hH2] at hh; exact hdlsA_there (hq.keep hX) h hh
  have HOK : Hid (∀ h ∈ H1 ++ H2, EntOk h.x) := fun h hh => by
    have : h.x ∈ (tl ++ kl).map Prod.fst := by
      rw [List.map_append, ← e1, ← e2, ← List.map_append]
      exact List.mem_map_of_mem hh
    obtain ⟨q, hq', e⟩ := List.mem_map.1 this
    rw [← e]
    exact hto q hq'
  have HSET : Hid (∀ X, Below w.heap.size w X → SetIs X) := fun X hX => hset.below hX
  obtain ⟨Z, hZ⟩ : ∃ Z, storeC bu gu (tl.map Prod.fst) (kl.map Prod.fst) = Z := ⟨_, rfl⟩
  rw [hZ]
  unfold storeC at hZ
  rw [← e1, ← e2, List.length_map, List.length_map, l1, l2, ← List.map_append] at hZ
  have HZ : Hid (_ = Z) := hZ
  clear hZ hW ht hq hto hH1 hH2 e1 e2 hset
  obtain ⟨tn, htn⟩ : ∃ n, tl.length = n := ⟨_, rfl⟩
  obtain ⟨kn, hkn⟩ : ∃ n, kl.length = n := ⟨_, rfl⟩
  rw [htn] at HW K0 l1 HSH HZ hl
  rw [hkn] at HW K0 l2 HSH HZ hk
  rw [htn, hkn]
  have HL1 : Hid (H1.length = tn) := l1
  have HL2 : Hid (H2.length = kn) := l2
  clear l1 l2 htn hkn
  by_cases c1 : bu < 0
  · have HR : Hid (3 = Z) := by have := HZ.out; rw [if_pos (by omega)] at this; exact this
    clear HZ HSH HTH HOK HSET
    go_enter Tryz.func29, Tryz.ntmps29
    go_wp2_with fail
    go_ret
    exact ⟨ret_int HR.out, HW.out ▸ K0.out.1⟩
  by_cases c1b : 1000000 < bu
  · have HR : Hid (3 = Z) := by have := HZ.out; rw [if_pos (by omega)] at this; exact this
    clear HZ HSH HTH HOK HSET
    go_enter Tryz.func29, Tryz.ntmps29
    go_wp2_with fail
    go_ret
    exact ⟨ret_int HR.out, HW.out ▸ K0.out.1⟩
  by_cases c2 : gu < 0
  · have HR : Hid (3 = Z) := by have := HZ.out; rw [if_pos (by omega)] at this; exact this
    clear HZ HSH HTH HOK HSET
    go_enter Tryz.func29, Tryz.ntmps29
    go_wp2_with fail
    go_ret
    exact ⟨ret_int HR.out, HW.out ▸ K0.out.1⟩
  by_cases c2b : bu < gu
  · have HR : Hid (3 = Z) := by have := HZ.out; rw [if_pos (by omega)] at this; exact this
    clear HZ HSH HTH HOK HSET
    go_enter Tryz.func29, Tryz.ntmps29
    go_wp2_with fail
    go_ret
    exact ⟨ret_int HR.out, HW.out ▸ K0.out.1⟩
  rw [if_neg (by omega)] at HZ
  have ew : IntKind.i64.wrap ((tn : Int) + (kn : Int)) = (tn : Int) + (kn : Int) := by
    unfold IntKind.wrap; simp [IntKind.signed, IntKind.bits]; omega
  by_cases c3 : 40 < tn + kn
  · have HR : Hid (2 = Z) := by have := HZ.out; rw [if_pos c3] at this; exact this
    have g3 : (40 : Int) < (tn : Int) + (kn : Int) := by omega
    clear HZ HSH HTH HOK HSET
    go_enter Tryz.func29, Tryz.ntmps29
    go_wp2_with fail
    go_ret
    exact ⟨ret_int HR.out, HW.out ▸ K0.out.1⟩
  have HZ2 : Hid ((if faultE ((H1 ++ H2).map Hdl.x) ≠ 0 then faultE ((H1 ++ H2).map Hdl.x) else if dupE ((H1 ++ H2).map Hdl.x) = true then 6 else if bu < costsE ((H1 ++ H2).map Hdl.x) ∨ gu < costsE (H2.map Hdl.x) then 7 else 0) = Z) := by have := HZ.out; rw [if_neg c3] at this; exact this
  have g3 : ¬ (40 : Int) < (tn : Int) + (kn : Int) := by omega
  clear HZ
  go_enter Tryz.func29, Tryz.ntmps29
  go_wp2_with fail
  rw [← HW.out]
  refine HSH.out.mono ?_
  rintro r w1 ⟨⟨v1, v2, rfl, h2⟩, hb1⟩
  obtain ⟨a1, k1, rfl, _⟩ := h2.a.form
  obtain ⟨a2, k2, rfl, _⟩ := h2.b.form
  rw [HL1.out, HL2.out] at h2 ⊢
  obtain ⟨V, hV⟩ : ∃ V, V = w1.alloc (.cells #[.slice a1 tn k1, .slice a2 kn k2] 98) := ⟨_, rfl⟩
  have HV : Hid (V = w1.alloc (.cells #[.slice a1 tn k1, .slice a2 kn k2] 98)) := hV
  obtain ⟨sh, hsh⟩ : ∃ sh, Hid (w1.heap.size = sh) := ⟨_, rfl⟩
  have HK : Hid (∀ X, Below V.heap.size V X → Below w.heap.size w X ∧ S4 X w.heap.size (.int .i64 bu) (.int .i64 gu) (.slice ta tn tc) (.slice ka kn kc) ∧ X.cell? ⟨sh, 0, none⟩ = some (.slice a1 tn k1) ∧ X.cell? ⟨sh, 1, none⟩ = some (.slice a2 kn k2) ∧ TwoP X W.heap.size (.slice a1 tn k1) (.slice a2 kn k2) H1 H2) := fun X hX => by
    have aV : Below w1.heap.size w1 V := by rw [hV]; exact (Below.refl _ _).alloc (Nat.le_refl _) _
    have b1 := K0.out.1.trans (hb1.mono K0.out.1.size)
    have bV := b1.trans (aV.mono b1.size)
    have hVs : w1.heap.size < V.heap.size := by rw [hV]; simp
    refine ⟨bV.trans (hX.mono bV.size), ((K0.out.2.keep hb1).keep aV).keep hX, ?_, ?_, (h2.below aV).below hX⟩
    · rw [← hsh.out, hX.cell (p := ⟨w1.heap.size, 0, none⟩) hVs, hV]; simp
    · rw [← hsh.out, hX.cell (p := ⟨w1.heap.size, 1, none⟩) hVs, hV]; simp
  clear hV h2 hb1 K0 HSH HW
  have h40 : tn + kn ≤ 40 := by omega
  have HALL : Hid (∀ X, Below V.heap.size V X → Calls Tryz.prog 87 #[.agg #[.slice a1 tn k1, .slice a2 kn k2]] X fun e w' => (∃ v, e = .returned v ∧ OwnP w' X.heap.size v (H1 ++ H2)) ∧ Below X.heap.size X w') := fun X hX => shAll_any X _ _ _ H1 H2 (HK.out X hX).2.2.2.2 (by rw [HL1.out, HL2.out]; omega)
  have HLN : Hid ((H1 ++ H2).length = tn + kn) := by show _ = _; rw [List.length_append, HL1.out, HL2.out]
  have q0 := (HK.out V (Below.refl _ _)).2.2.1
  have q1 := (HK.out V (Below.refl _ _)).2.2.2.1
  rw [HV.out, ← hsh.out] at q0 q1
  go_wp2_with fail
  rw [← HV.out]
  refine (HALL.out V (Below.refl _ _)).mono ?_
  rintro r w2 ⟨⟨v, rfl, ho⟩, hb2⟩
  obtain ⟨av, ac, rfl, _, hf⟩ := ho.form
  rw [HLN.out] at ho ⊢
  rw [hsh.out]
  have HC : Hid (∀ X, Below w2.heap.size w2 X → ∀ (k : Nat) h, (H1 ++ H2)[k]? = some h → ∃ g, av = some ⟨g, 0, none⟩ ∧ X.cell? ⟨g, k, none⟩ = some (.pointer (some ⟨h.b, h.o, none⟩))) := fun X hX k h hk => by
    rcases hf with e | ⟨g, e, _, hg, hc⟩
    · rw [e] at hk; simp at hk
    · exact ⟨g, e, by rw [hX.cell (p := ⟨g, k, none⟩) hg]; exact hc k h hk⟩
  have HB2 : Hid (Below V.heap.size V w2) := hb2
  clear q0 q1 hf ho hb2 HV hsh
  obtain ⟨n, hn⟩ : ∃ n, tn + kn = n := ⟨_, rfl⟩
  rw [hn] at HLN h40 ⊢
  clear hn
  obtain ⟨al, hal⟩ : ∃ al, H1 ++ H2 = al := ⟨_, rfl⟩
  have HSUB : Hid (∀ h ∈ H2, h ∈ al) := fun h hh => by rw [← hal]; exact List.mem_append_right _ hh
  have HAL : Hid (H1 ++ H2 = al) := hal
  rw [hal] at HTH HOK HZ2 HALL HLN HC
  clear hal
  go_wp2_with fail
  go_loopw [40] (fun i wr => ∃ k : Nat, k ≤ n ∧ i = .int .i64 k ∧ faultE (al.map Hdl.x) = faultE ((al.map Hdl.x).drop k) ∧ Below w2.heap.size w2 wr) (fun i _ => n - (intOf i).toNat)
  case atStart => exact ⟨0, Nat.zero_le _, rfl, rfl, Below.refl _ _⟩
  case round =>
    obtain ⟨k, hk', rfl, hs, hb⟩ := hrel
    have HS : Hid (faultE (al.map Hdl.x) = faultE ((al.map Hdl.x).drop k)) := hs
    clear hs
    have HBV : Hid (Below V.heap.size V wr) := HB2.out.trans (hb.mono HB2.out.size)
    by_cases hlt : k < n
    · obtain ⟨q, hr⟩ : ∃ r, al[k]? = some r := ⟨al[k]'(by have := HLN.out; omega), List.getElem?_eq_getElem _⟩
      obtain ⟨g', rfl, p⟩ := HC.out wr hb k q hr
      have hw := (HK.out wr HBV.out).1
      have hmem := List.mem_of_getElem? hr
      have PC := (HTH.out wr hw q hmem).cells
      have C : Hid (Calls Tryz.prog 31 #[.agg #[.string q.x.key, .int .i64 q.x.st, .slice q.r.ha q.x.hs.length q.r.hc, .slice q.r.ba q.x.bl.length q.r.bc, .int .i64 q.x.t, .int .i64 q.x.g, .int .i64 q.x.l, .int .i64 q.x.s, .int .i64 q.x.e, .bool q.x.b1, .bool q.x.b2, .slice q.r.ta q.x.ts.length q.r.tc, .int .i64 q.x.pins]] wr fun r w' => r = .returned (.int .i64 (entC q.x)) ∧ Below wr.heap.size wr w') := implEntry_h wr q (HSET.out wr hw) (HOK.out q hmem) (HTH.out wr hw q hmem)
      have HD : Hid (faultE (al.map Hdl.x) = if entC q.x ≠ 0 then entC q.x else faultE ((al.map Hdl.x).drop (k + 1))) := by show _ = _; rw [HS.out, faultE_dropH hr]
      have g : (k : Int) < n := by omega
      have g0 : (0 : Int) ≤ k := by omega
      have HB : Hid (Below w2.heap.size w2 wr) := hb
      have p0 := PC.1
      have p1 := PC.2.1
      have p2 := PC.2.2.1
      have p3 := PC.2.2.2.1
      have p4 := PC.2.2.2.2.1
      have p5 := PC.2.2.2.2.2.1
      have p6 := PC.2.2.2.2.2.2.1
      have p7 := PC.2.2.2.2.2.2.2.1
      have p8 := PC.2.2.2.2.2.2.2.2.1
      have p9 := PC.2.2.2.2.2.2.2.2.2.1
      have p10 := PC.2.2.2.2.2.2.2.2.2.2.1
      have p11 := PC.2.2.2.2.2.2.2.2.2.2.2.1
      have p12 := PC.2.2.2.2.2.2.2.2.2.2.2.2
      clear PC hr HS hb hw hmem
      generalize entC q.x = ec at *
      go_wp2_with fail
      refine C.out.mono ?_
      rintro r w3 ⟨rfl, hb3⟩
      have HB3 : Hid (Below w2.heap.size w2 w3) := HB.out.trans (hb3.mono HB.out.size)
      clear hb3 C HB p p0 p1 p2 p3 p4 p5 p6 p7 p8 p9 p10 p11 p12
      by_cases ce : ec = 0
      · have HE : Hid (faultE (al.map Hdl.x) = faultE ((al.map Hdl.x).drop (k + 1))) := by show _ = _; rw [HD.out, if_neg (by simpa using ce)]
        clear HD
        subst ce
        go_wp2_with fail
        go_roundw
        case rel => exact ⟨k + 1, by omega, by go_num, HE.out, HB3.out⟩
        case measure => simp [intOf]; omega
      · have HE : Hid (ec = Z) := by
          show _ = _
          have := HZ2.out
          rw [HD.out, if_pos ce, if_pos ce] at this
          exact this
        clear HD
        have HBW : Hid (Below w.heap.size w w3) := (HK.out w3 (HB2.out.trans (HB3.out.mono HB2.out.size))).1
        go_wp2_with fail
        go_ret
        exact ⟨ret_int HE.out, HBW.out⟩
    · have HF0 : faultE (al.map Hdl.x) = 0 := by
        rw [HS.out, List.drop_of_length_le (by have := HLN.out; simp; omega), faultE]
      have HZ3 : Hid ((if dupE (al.map Hdl.x) = true then 6 else if bu < costsE (al.map Hdl.x) ∨ gu < costsE (H2.map Hdl.x) then 7 else 0) = Z) := by
        show _ = _
        have := HZ2.out
        rw [HF0] at this
        simpa using this
      have HEC : Hid (∀ q ∈ al, entC q.x = 0) := fun q hq => faultE_zero HF0 q.x (List.mem_map_of_mem hq)
      clear HS HF0 HZ2 HC HB2 hb
      have q0 := (HK.out wr HBV.out).2.2.1
      have q1 := (HK.out wr HBV.out).2.2.2.1
      go_wp2_with fail
      refine (HALL.out wr HBV.out).mono ?_
      rintro r w3 ⟨⟨v, rfl, ho⟩, hb3⟩
      have HB3 : Hid (Below V.heap.size V w3) := HBV.out.trans (hb3.mono HBV.out.size)
      have hw3 := (HK.out w3 HB3.out).1
      have C3 : Hid (Calls Tryz.prog 88 #[v, .func (.func 89) #[] #[]] w3 fun e w' => e = .returned (.bool (dupE (al.map Hdl.x))) ∧ Below w3.heap.size w3 w') := keyTwice_any w3 v _ al ho (by rw [HLN.out]; omega) (fun h hh => HTH.out w3 hw3 h hh) (fun h hh => (HOK.out h hh).key)
      clear ho hb3 hw3 q0 q1 HALL HBV
      go_wp2_with fail
      refine C3.out.mono ?_
      rintro r w4 ⟨rfl, hb4⟩
      have HB4 : Hid (Below V.heap.size V w4) := HB3.out.trans (hb4.mono HB3.out.size)
      clear hb4 C3 HB3
      have hw4 := (HK.out w4 HB4.out).1
      obtain ⟨hK1, hS4, hc0, hc1, h2⟩ := HK.out w4 HB4.out
      have HBW : Hid (Below w.heap.size w w4) := hw4
      cases hd : dupE (al.map Hdl.x)
      · rw [hd] at HZ3
        simp only [Bool.false_eq_true, if_false] at HZ3
        have cA : ∀ d os, Calls Tryz.prog 90 #[.agg #[.slice a1 tn k1, .slice a2 kn k2]] (grow (redrawn w4 d) os) fun e w'' => e = .returned (.int .i64 (costsE (al.map Hdl.x))) ∧ ∃ p : Regrown, w'' = grow (redrawn w4 p.d) p.os := fun d os => Calls.regrown_of (by
          have b := below_regrown w4 d os
          have bw := hw4.trans (b.mono hw4.size)
          have := shCost_any (grow (redrawn w4 d) os) _ _ _ H1 H2 (h2.below b) (HSET.out _ bw) (by rw [← List.length_append, HAL.out, HLN.out]; omega) (fun h hh => HTH.out _ bw h (HAL.out ▸ hh)) (fun h hh => HEC.out h (HAL.out ▸ hh))
          rw [HAL.out] at this
          exact this)
        have cK : ∀ d os, Calls Tryz.prog 91 #[.agg #[.slice a2 kn k2], .func (.func 92) #[] #[]] (grow (redrawn w4 d) os) fun e w'' => e = .returned (.int .i64 (costsE (H2.map Hdl.x))) ∧ ∃ p : Regrown, w'' = grow (redrawn w4 p.d) p.os := fun d os => Calls.regrown_of (by
          have b := below_regrown w4 d os
          have bw := hw4.trans (b.mono hw4.size)
          exact shSum_any (grow (redrawn w4 d) os) _ _ H2 (h2.b.below b) (HSET.out _ bw) (by rw [HL2.out]; have := HLN.out; rw [← HAL.out, List.length_append, HL1.out, HL2.out] at this; omega) (fun h hh => HTH.out _ bw h (HSUB.out h hh)) (fun h hh => HEC.out h (HSUB.out h hh)))
        have a0 := cell_regrown hS4.c0
        have a1' := cell_regrown hS4.c1
        have s0 := cell_regrown hc0
        have s1 := cell_regrown hc1
        clear hd HEC HTH HOK HSET HK hS4 hc0 hc1 h2 hK1 hw4 HB4 HSUB HAL HL1 HL2
        generalize costsE (al.map Hdl.x) = ca at *
        generalize costsE (H2.map Hdl.x) = ck at *
        have FIN : Hid (∀ w2', (∃ p : Regrown, w2' = grow (redrawn w4 p.d) p.os) → Below w.heap.size w w2') := fun w2' hw2 => by
          obtain ⟨⟨d, os⟩, rfl⟩ := hw2
          exact HBW.out.trans ((below_regrown w4 d os).mono HBW.out.size)
        by_cases d1 : bu < ca
        · have HE : Hid (7 = Z) := by have := HZ3.out; rw [if_pos (.inl d1)] at this; exact this
          have dd1 : decide (bu < ca) = true := decide_eq_true d1
          clear HZ3
          go_wp2_with fail
          refine wp_region_quiet_below (by kernel_rfl) (by kernel_rfl) ?_
          repeat (go_big_quiet_step (first | (go_at_call 90; with_reducible exact cA _ _) | (go_at_call 91; with_reducible exact cK _ _)))
          refine wpQuiet_nil ?_
          intro w5 hw5
          have hbb := FIN.out w5 hw5
          clear a0 a1' s0 s1 hw5 cA cK FIN
          go_wp2_with fail
          go_ret
          exact ⟨ret_int HE.out, hbb⟩
        have dd1 : decide (bu < ca) = false := decide_eq_false (by omega)
        by_cases d2 : gu < ck
        · have HE : Hid (7 = Z) := by have := HZ3.out; rw [if_pos (.inr d2)] at this; exact this
          have dd2 : decide (gu < ck) = true := decide_eq_true d2
          clear HZ3
          go_wp2_with fail
          refine wp_region_quiet_below (by kernel_rfl) (by kernel_rfl) ?_
          repeat (go_big_quiet_step (first | (go_at_call 90; with_reducible exact cA _ _) | (go_at_call 91; with_reducible exact cK _ _)))
          refine wpQuiet_nil ?_
          intro w5 hw5
          have hbb := FIN.out w5 hw5
          clear a0 a1' s0 s1 hw5 cA cK FIN
          go_wp2_with fail
          go_ret
          exact ⟨ret_int HE.out, hbb⟩
        · have HE : Hid (0 = Z) := by have := HZ3.out; rw [if_neg (by omega)] at this; exact this
          have dd2 : decide (gu < ck) = false := decide_eq_false (by omega)
          clear HZ3
          go_wp2_with fail
          refine wp_region_quiet_below (by kernel_rfl) (by kernel_rfl) ?_
          repeat (go_big_quiet_step (first | (go_at_call 90; with_reducible exact cA _ _) | (go_at_call 91; with_reducible exact cK _ _)))
          refine wpQuiet_nil ?_
          intro w5 hw5
          have hbb := FIN.out w5 hw5
          clear a0 a1' s0 s1 hw5 cA cK FIN
          go_wp2_with fail
          go_ret
          exact ⟨ret_int HE.out, hbb⟩
      · have HE : Hid (6 = Z) := by have := HZ3.out; rw [hd, if_pos rfl] at this; exact this
        clear HZ3 hd HEC HTH HOK HSET HK hS4 hc0 hc1 h2 hK1 hw4 HB4
        go_wp2_with fail
        go_ret
        exact ⟨ret_int HE.out, HBW.out⟩
end Go.Proofs.YtdooopkpnanekaaGreatDoor
/-
  CostIn, by the specification and by the program.
-/
namespace Go.Proofs.YtdooopkpnanekaaGreatDoor
open Go.ChangeShapes Go.WideShapes Go.ChangeAt Go.RowKit Go.Sort
theorem storeC_zero {bu gu : Int} {tl kl : List Ent} (h : storeC bu gu tl kl = 0) : (0 ≤ bu ∧ bu ≤ 1000000 ∧ 0 ≤ gu ∧ gu ≤ bu) ∧ tl.length + kl.length ≤ 40 ∧ faultE (tl ++ kl) = 0 ∧ dupE (tl ++ kl) = false ∧ costsE (tl ++ kl) ≤ bu ∧ costsE kl ≤ gu := by
  unfold storeC at h
  split at h
  · omega
  split at h
  · omega
  split at h
  · contradiction
  split at h
  · omega
  split at h
  · omega
  rename_i c1 c2 c3 c4 c5
  exact ⟨by omega, by omega, by omega, by simpa using c4, by omega, by omega⟩
set_option maxRecDepth 100000 in
set_option maxHeartbeats 8000000 in
theorem implCin_any (w : World) (bu gu : Int) (ta ka : Option Addr) (tc kc : Nat) (tl kl : List (Ent × EntR)) (hset : SetIs w) (hl : tl.length ≤ 1048576) (hk : kl.length ≤ 1048576) (hto : ∀ q ∈ tl ++ kl, EntOk q.1) (ht : EntsIn w ta tl) (hq : EntsIn w ka kl) :
    Calls Tryz.prog 34 #[.agg #[.int .i64 bu, .int .i64 gu, .slice ta tl.length tc, .slice ka kl.length kc]] w fun r w' => r = .returned (.agg #[.int .i64 (storeC bu gu (tl.map Prod.fst) (kl.map Prod.fst)), .int .i64 (if storeC bu gu (tl.map Prod.fst) (kl.map Prod.fst) = 0 then costsE (tl.map Prod.fst ++ kl.map Prod.fst) else 0)]) ∧ Below w.heap.size w w' := by
  have HF : Hid (∀ X, Below w.heap.size w X → Calls Tryz.prog 29 #[.agg #[.int .i64 bu, .int .i64 gu, .slice ta tl.length tc, .slice ka kl.length kc]] X fun r w' => r = .returned (.int .i64 (storeC bu gu (tl.map Prod.fst) (kl.map Prod.fst))) ∧ Below X.heap.size X w') := fun X hb => implSto_any X bu gu ta ka tc kc tl kl (hset.below hb) hl hk hto (ht.keep hb) (hq.keep hb)
  have HC : Hid (storeC bu gu (tl.map Prod.fst) (kl.map Prod.fst) = 0 → ∀ X, Below w.heap.size w X → Calls Tryz.prog 56 #[.agg #[.int .i64 bu, .int .i64 gu, .slice ta tl.length tc, .slice ka kl.length kc]] X fun e w' => (∃ v1 v2, e = .returned (.agg #[v1, v2]) ∧ Calls Tryz.prog 90 #[.agg #[v1, v2]] w' fun e w'' => e = .returned (.int .i64 (costsE (tl.map Prod.fst ++ kl.map Prod.fst))) ∧ Below w'.heap.size w' w'') ∧ Below X.heap.size X w') := fun h0 X hb => by
    obtain ⟨_, z2, z3, _, _, _⟩ := storeC_zero h0
    rw [List.length_map, List.length_map] at z2
    refine (shelvesOf_any X bu gu ta ka tc kc tl kl hl hk (ht.keep hb) (hq.keep hb)).mono ?_
    rintro e w' ⟨⟨v1, v2, rfl, h2⟩, hb'⟩
    have hbb := hb.trans (hb'.mono hb.size)
    have em : (hdlsA ta tl ++ hdlsA ka kl).map Hdl.x = tl.map Prod.fst ++ kl.map Prod.fst := by rw [List.map_append, hdlsA_x, hdlsA_x]
    have C := shCost_any w' v1 v2 _ _ _ h2 (hset.below hbb) (by rw [hdlsA_len, hdlsA_len]; omega) (fun h hh => by
      rcases List.mem_append.1 hh with hh | hh
      · exact hdlsA_there (ht.keep hbb) h hh
      · exact hdlsA_there (hq.keep hbb) h hh) (fun h hh => faultE_zero z3 h.x (by rw [← em]; exact List.mem_map_of_mem hh))
    rw [em] at C
    exact ⟨⟨v1, v2, rfl, C⟩, hb'⟩
  obtain ⟨W, hW⟩ : ∃ W, W = (w.alloc (.cells #[.int .i64 bu, .int .i64 gu, .slice ta tl.length tc, .slice ka kl.length kc] 28)).alloc (.cells #[.int .i64 0, .int .i64 0] 69) := ⟨_, rfl⟩
  have HW : Hid (W = (w.alloc (.cells #[.int .i64 bu, .int .i64 gu, .slice ta tl.length tc, .slice ka kl.length kc] 28)).alloc (.cells #[.int .i64 0, .int .i64 0] 69)) := hW
  have K0 : Hid (Below w.heap.size w W ∧ S4 W w.heap.size (.int .i64 bu) (.int .i64 gu) (.slice ta tl.length tc) (.slice ka kl.length kc) ∧ IR W (w.heap.size + 1) (.int .i64 0) (.int .i64 0)) := by
    rw [hW]
    refine ⟨((Below.refl _ _).alloc (Nat.le_refl _) _).alloc (by simp) _, (S4.new w _ _ _ _ _).keep ((Below.refl _ _).alloc (Nat.le_refl _) _), ⟨by simp, by simp, fun o => by simp, by simp⟩⟩
  clear hW hto ht hq hset
  obtain ⟨c, hc⟩ : ∃ c, storeC bu gu (tl.map Prod.fst) (kl.map Prod.fst) = c := ⟨_, rfl⟩
  rw [hc] at HF HC ⊢
  clear hc
  generalize costsE (tl.map Prod.fst ++ kl.map Prod.fst) = cn at *
  generalize tl.length = tn at *
  generalize kl.length = kn at *
  by_cases c0 : c = 0
  · subst c0
    have HC1 := HC.out rfl
    rw [if_pos rfl]
    clear HC
    go_enter Tryz.func34, Tryz.ntmps34
    go_wp2_with fail
    rw [← HW.out]
    refine (HF.out _ K0.out.1).mono ?_
    rintro r w1 ⟨rfl, hb1⟩
    have K1 : Hid (Below w.heap.size w w1 ∧ S4 w1 w.heap.size (.int .i64 bu) (.int .i64 gu) (.slice ta tn tc) (.slice ka kn kc) ∧ IR w1 (w.heap.size + 1) (.int .i64 0) (.int .i64 0)) := ⟨K0.out.1.trans (hb1.mono K0.out.1.size), K0.out.2.1.keep hb1, K0.out.2.2.keep hb1⟩
    clear hb1 K0 HF HW
    have q0 := K1.out.2.1.c0
    have q1 := K1.out.2.1.c1
    have q2 := K1.out.2.1.c2
    have q3 := K1.out.2.1.c3
    go_wp2_with fail
    refine (HC1 _ K1.out.1).mono ?_
    rintro r w2 ⟨⟨v1, v2, rfl, C2⟩, hb2⟩
    clear q0 q1 q2 q3
    have K2 : Hid (Below w.heap.size w w2 ∧ IR w2 (w.heap.size + 1) (.int .i64 0) (.int .i64 0)) := ⟨K1.out.1.trans (hb2.mono K1.out.1.size), K1.out.2.2.keep hb2⟩
    clear hb2 K1 HC1
    go_wp2_with fail
    refine C2.mono ?_
    rintro r w3 ⟨rfl, hb3⟩
    have K3 : Hid (Below w.heap.size w w3 ∧ IR w3 (w.heap.size + 1) (.int .i64 0) (.int .i64 0)) := ⟨K2.out.1.trans (hb3.mono K2.out.1.size), K2.out.2.keep hb3⟩
    clear hb3 K2 C2
    obtain ⟨r0, r1, rf, _⟩ := K3.out.2
    have rf0 := rf 0
    have rf1 := rf 1
    clear rf
    go_wp2_with fail
    refine bodyPost_ret (v := .agg #[.int .i64 0, .int .i64 cn]) ?_ rfl ⟨rfl, (K3.out.1.setCell (by simp) _).setCell (by simp) _⟩
    simp [results, Tryz.results34, go_sem, r0, r1]
  · rw [if_neg c0]
    clear HC
    go_enter Tryz.func34, Tryz.ntmps34
    go_wp2_with fail
    rw [← HW.out]
    refine (HF.out _ K0.out.1).mono ?_
    rintro r w1 ⟨rfl, hb1⟩
    have K1 : Hid (Below w.heap.size w w1 ∧ IR w1 (w.heap.size + 1) (.int .i64 0) (.int .i64 0)) := ⟨K0.out.1.trans (hb1.mono K0.out.1.size), K0.out.2.2.keep hb1⟩
    clear hb1 K0 HF
    obtain ⟨r0, r1, rf, _⟩ := K1.out.2
    have rf0 := rf 0
    have rf1 := rf 1
    clear rf
    go_wp2_with fail
    refine bodyPost_ret (v := .agg #[.int .i64 c, .int .i64 0]) ?_ rfl ⟨rfl, (K1.out.1.setCell (by simp) _).setCell (by simp) _⟩
    simp [results, Tryz.results34, go_sem, r0, r1]
end Go.Proofs.YtdooopkpnanekaaGreatDoor
/-
  An entry is looked for, by the model.
-/
namespace Go.Proofs.YtdooopkpnanekaaGreatDoor
open Go.ChangeShapes Go.WideShapes Go.ChangeAt Go.RowKit Go.Sort
def zeroEnt : Ent := ⟨⟨#[]⟩, 0, [], [], 0, 0, 0, 0, 0, false, false, [], 0⟩
def zeroR : EntR := ⟨none, 0, none, 0, none, 0⟩
theorem zeroRow (w : World) (base : Nat) : EntRow w base zeroEnt zeroR := ⟨World.ownsRow_nil _ _ _ _, World.ownsRow_nil _ _ _ _, World.ownsRow_nil _ _ _ _, .inl rfl, .inl rfl, .inl rfl⟩
def isKey (key : ByteArray) (x : Ent) : Bool := x.key.toList == key.toList
/-- What PeekEntry answers. -/
def peekR (bu gu : Int) (tl kl : List Ent) (key : ByteArray) : Int × Ent :=
  if storeC bu gu tl kl ≠ 0 then (storeC bu gu tl kl, zeroEnt) else
  match (tl ++ kl).find? (isKey key) with
  | none => (4, zeroEnt)
  | some x => (0, x)
theorem find_at : ∀ (l : List Ent) (key : ByteArray) (i : Nat) (x : Ent), l[i]? = some x → isKey key x = true → (∀ j y, j < i → l[j]? = some y → isKey key y = false) → l.find? (isKey key) = some x
  | [], _, i, x, h, _, _ => by simp at h
  | y :: l, key, 0, x, h, hk, _ => by
    simp at h; subst h
    simp [hk]
  | y :: l, key, i + 1, x, h, hk, hn => by
    have h0 := hn 0 y (by omega) (by simp)
    rw [List.find?_cons, h0]
    exact find_at l key i x (by simpa using h) hk (fun j z hj hz => hn (j + 1) z (by omega) (by simpa using hz))
theorem find_no (l : List Ent) (key : ByteArray) (h : ∀ (j : Nat) y, l[j]? = some y → isKey key y = false) : l.find? (isKey key) = none := by
  rw [List.find?_eq_none]
  intro x hx
  obtain ⟨j, hj⟩ := List.mem_iff_getElem?.1 hx
  rw [h j x hj]; simp
set_option maxHeartbeats 4000000 in
theorem l8Find_any (w : World) (a : Option Addr) (cap : Nat) (l : List (Ent × EntR)) (key : ByteArray) (hl : l.length ≤ 1000000) (hi : EntsIn w a l) :
    Calls Tryz.prog 152 #[.slice a l.length cap, .string key] w fun e w' => ((∃ (i : Nat) (q : Ent × EntR), l[i]? = some q ∧ isKey key q.1 = true ∧ (l.map Prod.fst).find? (isKey key) = some q.1 ∧ e = .returned (.int .i64 (i : Int))) ∨ ((l.map Prod.fst).find? (isKey key) = none ∧ e = .returned (.int .i64 (-1)))) ∧ Below w.heap.size w w' := by
  have HI : Hid (EntsIn w a l) := hi
  clear hi
  generalize hn : l.length = n at *
  have HN : Hid (l.length = n) := hn
  clear hn
  go_enter Tryz.func152, Tryz.ntmps152
  go_wp2_with fail
  go_loopw [5] (fun i wr => ∃ k : Nat, k ≤ n ∧ i = .int .i64 k ∧ (∀ (j : Nat) y, j < k → (l.map Prod.fst)[j]? = some y → isKey key y = false) ∧ Below w.heap.size w wr) (fun i _ => n - (intOf i).toNat)
  case atStart => exact ⟨0, Nat.zero_le _, rfl, fun j y h => absurd h (by omega), Below.refl _ _⟩
  case round =>
    obtain ⟨k, hk, rfl, hs, hb⟩ := hrel
    have HS : Hid (∀ (j : Nat) y, j < k → (l.map Prod.fst)[j]? = some y → isKey key y = false) := hs
    clear hs
    by_cases hlt : k < n
    · obtain ⟨q, hr⟩ : ∃ r, l[k]? = some r := ⟨l[k]'(by have := HN.out; omega), List.getElem?_eq_getElem _⟩
      rcases HI.out with h | ⟨b, off, rfl, hat⟩
      · subst h; simp at hr
      have p0 := ((hat.keep hb).cells hr).1
      have g : (k : Int) < n := by omega
      have g0 : (0 : Int) ≤ k := by omega
      have HM : Hid ((l.map Prod.fst)[k]? = some q.1) := by show _ = _; rw [List.getElem?_map, hr]; rfl
      have HR : Hid (l[k]? = some q) := hr
      clear hat hr
      cases he : (q.1.key.toList == key.toList)
      · have HS2 : Hid (∀ (j : Nat) y, j < k + 1 → (l.map Prod.fst)[j]? = some y → isKey key y = false) := by
          intro j y hj hy
          by_cases e : j = k
          · subst e
            rw [HM.out] at hy
            obtain rfl := Option.some.inj hy
            exact he
          · exact HS.out j y (by omega) hy
        generalize q.1.key = qk at *
        go_wp2_with fail
        go_roundw
        case rel => exact ⟨k + 1, by omega, by go_num, HS2.out, hb⟩
        case measure => simp [intOf]; omega
      · have HF : Hid (∃ (i : Nat) (q : Ent × EntR), l[i]? = some q ∧ isKey key q.1 = true ∧ (l.map Prod.fst).find? (isKey key) = some q.1 ∧ Ending.returned (.int .i64 ((k : Nat) : Int)) = .returned (.int .i64 (i : Int))) := ⟨k, q, HR.out, he, find_at _ key k q.1 HM.out he HS.out, rfl⟩
        obtain ⟨qk, hqk⟩ : ∃ x, q.1.key = x := ⟨_, rfl⟩
        rw [hqk] at p0 he
        go_wp2_with fail
        go_ret
        exact ⟨.inl HF.out, hb⟩
    · have HF : Hid ((l.map Prod.fst).find? (isKey key) = none) := find_no _ key (fun j y hy => HS.out j y (by have := (List.getElem?_eq_some_iff.1 hy).1; have := HN.out; simp at *; omega) hy)
      clear HS
      go_wp2_with fail
      go_ret
      exact ⟨.inr ⟨HF.out, rfl⟩, hb⟩
set_option maxRecDepth 100000 in
set_option maxHeartbeats 8000000 in
theorem l8Peek_at (w : World) (S : Nat) (key : ByteArray) (ta ka : Option Addr) (tc kc : Nat) (tl kl : List (Ent × EntR)) (c2 : w.cell? ⟨S, 2, none⟩ = some (.slice ta tl.length tc)) (c3 : w.cell? ⟨S, 3, none⟩ = some (.slice ka kl.length kc)) (hl : tl.length + kl.length ≤ 1000000) (hf : ∀ q ∈ tl ++ kl, q.1.hs.length ≤ 1048576 ∧ q.1.bl.length ≤ 1048576 ∧ q.1.ts.length ≤ 1048576) (ht : EntsIn w ta tl) (hk : EntsIn w ka kl) :
    Calls Tryz.prog 107 #[.pointer (some ⟨S, 0, none⟩), .string key] w fun e w' => ((∃ x r, (tl.map Prod.fst ++ kl.map Prod.fst).find? (isKey key) = some x ∧ e = .returned (.tuple #[entV x r, .bool true]) ∧ EntRow w' w.heap.size x r) ∨ ((tl.map Prod.fst ++ kl.map Prod.fst).find? (isKey key) = none ∧ e = .returned (.tuple #[entV zeroEnt zeroR, .bool false]))) ∧ Below w.heap.size w w' := by
  obtain ⟨W, hW⟩ : ∃ W, W = w.alloc (.cells #[.string ⟨#[]⟩, .int .i64 0, .slice none 0 0, .slice none 0 0, .int .i64 0, .int .i64 0, .int .i64 0, .int .i64 0, .int .i64 0, .bool false, .bool false, .slice none 0 0, .int .i64 0] 52) := ⟨_, rfl⟩
  have HW : Hid (W = w.alloc (.cells #[.string ⟨#[]⟩, .int .i64 0, .slice none 0 0, .slice none 0 0, .int .i64 0, .int .i64 0, .int .i64 0, .int .i64 0, .int .i64 0, .bool false, .bool false, .slice none 0 0, .int .i64 0] 52)) := hW
  have bW : Below w.heap.size w W := by rw [hW]; exact (Below.refl _ _).alloc (Nat.le_refl _) _
  have K0 : Hid (Below w.heap.size w W ∧ E13 W w.heap.size (.string ⟨#[]⟩) (.int .i64 0) (.slice none 0 0) (.slice none 0 0) (.int .i64 0) (.int .i64 0) (.int .i64 0) (.int .i64 0) (.int .i64 0) (.bool false) (.bool false) (.slice none 0 0) (.int .i64 0) ∧ W.heap.size = w.heap.size + 1) := ⟨bW, by rw [hW]; exact E13.new w _ _ _ _ _ _ _ _ _ _ _ _ _ _, by rw [hW]; simp⟩
  have hS : S < w.heap.size := block_lt_of_cell c2
  have CA : Hid (Calls Tryz.prog 94 #[.pointer (some ⟨S, 0, none⟩)] W fun e w' => (∃ v, e = .returned v ∧ OwnE w' W.heap.size v (tl ++ kl)) ∧ Below W.heap.size W w') := l8All_any W S 0 ta ka tc kc tl kl (by rw [bW.cell (p := ⟨S, 0 + 2, none⟩) hS]; exact c2) (by rw [bW.cell (p := ⟨S, 0 + 3, none⟩) hS]; exact c3) hl (ht.keep bW) (hk.keep bW)
  have HIN : Hid (∀ X, Below w.heap.size w X → ∀ q ∈ tl ++ kl, EntIn X q.1 q.2) := fun X hX q hq' => by
    rcases List.mem_append.1 hq' with h | h
    · rcases ht.keep hX with e | ⟨b, off, _, hat⟩
      · subst e; simp at h
      · obtain ⟨i, hi⟩ := List.mem_iff_getElem?.1 h; exact hat.in hi
    · rcases hk.keep hX with e | ⟨b, off, _, hat⟩
      · subst e; simp at h
      · obtain ⟨i, hi⟩ := List.mem_iff_getElem?.1 h; exact hat.in hi
  have HF : Hid (∀ q ∈ tl ++ kl, q.1.hs.length ≤ 1048576 ∧ q.1.bl.length ≤ 1048576 ∧ q.1.ts.length ≤ 1048576) := hf
  rw [← List.map_append]
  have hln : (tl ++ kl).length ≤ 1000000 := by rw [List.length_append]; exact hl
  clear hW bW c2 c3 ht hk hf hS
  generalize tl ++ kl = al at *
  go_enter Tryz.func107, Tryz.ntmps107
  go_wp2_with fail
  rw [← HW.out]
  refine CA.out.mono ?_
  rintro e w1 ⟨⟨v, rfl, ho⟩, hb1⟩
  have hbb := K0.out.1.trans (hb1.mono K0.out.1.size)
  obtain ⟨a, c, rfl, _, hi⟩ := ho.at (HIN.out _ hbb)
  have K1 : Hid (Below w.heap.size w w1 ∧ E13 w1 w.heap.size (.string ⟨#[]⟩) (.int .i64 0) (.slice none 0 0) (.slice none 0 0) (.int .i64 0) (.int .i64 0) (.int .i64 0) (.int .i64 0) (.int .i64 0) (.bool false) (.bool false) (.slice none 0 0) (.int .i64 0) ∧ w.heap.size + 1 ≤ w1.heap.size ∧ EntsIn w1 a al) := ⟨hbb, K0.out.2.1.keep hb1, by have := hb1.size; have := K0.out.2.2; omega, hi⟩
  have CF : Hid (Calls Tryz.prog 152 #[.slice a al.length c, .string key] w1 fun e w' => ((∃ (i : Nat) (q : Ent × EntR), al[i]? = some q ∧ isKey key q.1 = true ∧ (al.map Prod.fst).find? (isKey key) = some q.1 ∧ e = .returned (.int .i64 (i : Int))) ∨ ((al.map Prod.fst).find? (isKey key) = none ∧ e = .returned (.int .i64 (-1)))) ∧ Below w1.heap.size w1 w') := l8Find_any w1 a c al key hln hi
  clear K0 HW CA hb1 hbb ho hi
  go_wp2_with fail
  refine CF.out.mono ?_
  rintro e w2 ⟨hcase, hb2⟩
  have K2 : Hid (Below w.heap.size w w2 ∧ E13 w2 w.heap.size (.string ⟨#[]⟩) (.int .i64 0) (.slice none 0 0) (.slice none 0 0) (.int .i64 0) (.int .i64 0) (.int .i64 0) (.int .i64 0) (.int .i64 0) (.bool false) (.bool false) (.slice none 0 0) (.int .i64 0) ∧ w.heap.size + 1 ≤ w2.heap.size ∧ EntsIn w2 a al) := ⟨K1.out.1.trans (hb2.mono K1.out.1.size), K1.out.2.1.keep hb2, by have := hb2.size; have := K1.out.2.2.1; omega, K1.out.2.2.2.keep hb2⟩
  clear hb2 K1 CF
  rcases hcase with ⟨i, q, hq, _, hfind, rfl⟩ | ⟨hfind, rfl⟩
  · rcases K2.out.2.2.2 with e | ⟨b, off, rfl, hat⟩
    · subst e; simp at hq
    have ft := HF.out q (List.mem_of_getElem? hq)
    have CC : Hid (Calls Tryz.prog 130 #[.pointer (some ⟨b, off + i * 13, none⟩)] w2 fun e w' => (∃ r, e = .returned (entV q.1 r) ∧ EntRow w' w2.heap.size q.1 r) ∧ Below w2.heap.size w2 w') := l8ECopy_at w2 ⟨b, off + i * 13, q.1, q.2⟩ ft.1 ft.2.1 ft.2.2 (hat i q hq)
    have hil : i < al.length := (List.getElem?_eq_some_iff.1 hq).1
    have gi : (i : Int) < (al.length : Int) := by omega
    have gi0 : (0 : Int) ≤ i := by omega
    have HFD : Hid ((al.map Prod.fst).find? (isKey key) = some q.1) := hfind
    clear hq hat ft hfind HF HIN
    go_wp2_with fail
    refine CC.out.mono ?_
    rintro e w3 ⟨⟨r, rfl, hrow⟩, hb3⟩
    have K3 : Hid (Below w.heap.size w w3 ∧ E13 w3 w.heap.size (.string ⟨#[]⟩) (.int .i64 0) (.slice none 0 0) (.slice none 0 0) (.int .i64 0) (.int .i64 0) (.int .i64 0) (.int .i64 0) (.int .i64 0) (.bool false) (.bool false) (.slice none 0 0) (.int .i64 0) ∧ EntRow w3 (w.heap.size + 1) q.1 r) := ⟨K2.out.1.trans (hb3.mono K2.out.1.size), K2.out.2.1.keep hb3, hrow.lower K2.out.2.2.1⟩
    clear hb3 K2 hrow CC
    unfold entV entW
    have z0 := K3.out.2.1.c0
    have zf0 := K3.out.2.1.fr 0
    have z1 := K3.out.2.1.c1
    have zf1 := K3.out.2.1.fr 1
    have z2 := K3.out.2.1.c2
    have zf2 := K3.out.2.1.fr 2
    have z3 := K3.out.2.1.c3
    have zf3 := K3.out.2.1.fr 3
    have z4 := K3.out.2.1.c4
    have zf4 := K3.out.2.1.fr 4
    have z5 := K3.out.2.1.c5
    have zf5 := K3.out.2.1.fr 5
    have z6 := K3.out.2.1.c6
    have zf6 := K3.out.2.1.fr 6
    have z7 := K3.out.2.1.c7
    have zf7 := K3.out.2.1.fr 7
    have z8 := K3.out.2.1.c8
    have zf8 := K3.out.2.1.fr 8
    have z9 := K3.out.2.1.c9
    have zf9 := K3.out.2.1.fr 9
    have z10 := K3.out.2.1.c10
    have zf10 := K3.out.2.1.fr 10
    have z11 := K3.out.2.1.c11
    have zf11 := K3.out.2.1.fr 11
    have z12 := K3.out.2.1.c12
    have zf12 := K3.out.2.1.fr 12
    have FIN : Hid (∀ u0 u1 u2 u3 u4 u5 u6 u7 u8 u9 u10 u11 u12, EntRow (((((((((((((w3.setCell ⟨w.heap.size, 0, none⟩ u0).setCell ⟨w.heap.size, 1, none⟩ u1).setCell ⟨w.heap.size, 2, none⟩ u2).setCell ⟨w.heap.size, 3, none⟩ u3).setCell ⟨w.heap.size, 4, none⟩ u4).setCell ⟨w.heap.size, 5, none⟩ u5).setCell ⟨w.heap.size, 6, none⟩ u6).setCell ⟨w.heap.size, 7, none⟩ u7).setCell ⟨w.heap.size, 8, none⟩ u8).setCell ⟨w.heap.size, 9, none⟩ u9).setCell ⟨w.heap.size, 10, none⟩ u10).setCell ⟨w.heap.size, 11, none⟩ u11).setCell ⟨w.heap.size, 12, none⟩ u12) w.heap.size q.1 r ∧ Below w.heap.size w (((((((((((((w3.setCell ⟨w.heap.size, 0, none⟩ u0).setCell ⟨w.heap.size, 1, none⟩ u1).setCell ⟨w.heap.size, 2, none⟩ u2).setCell ⟨w.heap.size, 3, none⟩ u3).setCell ⟨w.heap.size, 4, none⟩ u4).setCell ⟨w.heap.size, 5, none⟩ u5).setCell ⟨w.heap.size, 6, none⟩ u6).setCell ⟨w.heap.size, 7, none⟩ u7).setCell ⟨w.heap.size, 8, none⟩ u8).setCell ⟨w.heap.size, 9, none⟩ u9).setCell ⟨w.heap.size, 10, none⟩ u10).setCell ⟨w.heap.size, 11, none⟩ u11).setCell ⟨w.heap.size, 12, none⟩ u12)) := fun u0 u1 u2 u3 u4 u5 u6 u7 u8 u9 u10 u11 u12 => ⟨(((((((((((((K3.out.2.2.off1 u0 (by omega)).off1 u1 (by omega)).off1 u2 (by omega)).off1 u3 (by omega)).off1 u4 (by omega)).off1 u5 (by omega)).off1 u6 (by omega)).off1 u7 (by omega)).off1 u8 (by omega)).off1 u9 (by omega)).off1 u10 (by omega)).off1 u11 (by omega)).off1 u12 (by omega)).lower (by omega), (((((((((((((K3.out.1.setCell (Nat.le_refl _) u0).setCell (Nat.le_refl _) u1).setCell (Nat.le_refl _) u2).setCell (Nat.le_refl _) u3).setCell (Nat.le_refl _) u4).setCell (Nat.le_refl _) u5).setCell (Nat.le_refl _) u6).setCell (Nat.le_refl _) u7).setCell (Nat.le_refl _) u8).setCell (Nat.le_refl _) u9).setCell (Nat.le_refl _) u10).setCell (Nat.le_refl _) u11).setCell (Nat.le_refl _) u12)⟩
    clear K3
    go_wp2_with fail
    exact bodyPost_ret (v := .tuple #[.agg #[.string q.1.key, .int .i64 q.1.st, .slice r.ha q.1.hs.length r.hc, .slice r.ba q.1.bl.length r.bc, .int .i64 q.1.t, .int .i64 q.1.g, .int .i64 q.1.l, .int .i64 q.1.s, .int .i64 q.1.e, .bool q.1.b1, .bool q.1.b2, .slice r.ta q.1.ts.length r.tc, .int .i64 q.1.pins], .bool true]) (by simp [results, Tryz.results107, go_sem, z0, z1, z2, z3, z4, z5, z6, z7, z8, z9, z10, z11, z12]) rfl ⟨.inl ⟨q.1, r, HFD.out, rfl, (FIN.out _ _ _ _ _ _ _ _ _ _ _ _ _).1⟩, (FIN.out _ _ _ _ _ _ _ _ _ _ _ _ _).2⟩
  · have HFD : Hid ((al.map Prod.fst).find? (isKey key) = none) := hfind
    clear hfind HF HIN
    have z0 := K2.out.2.1.c0
    have zf0 := K2.out.2.1.fr 0
    have z1 := K2.out.2.1.c1
    have zf1 := K2.out.2.1.fr 1
    have z2 := K2.out.2.1.c2
    have zf2 := K2.out.2.1.fr 2
    have z3 := K2.out.2.1.c3
    have zf3 := K2.out.2.1.fr 3
    have z4 := K2.out.2.1.c4
    have zf4 := K2.out.2.1.fr 4
    have z5 := K2.out.2.1.c5
    have zf5 := K2.out.2.1.fr 5
    have z6 := K2.out.2.1.c6
    have zf6 := K2.out.2.1.fr 6
    have z7 := K2.out.2.1.c7
    have zf7 := K2.out.2.1.fr 7
    have z8 := K2.out.2.1.c8
    have zf8 := K2.out.2.1.fr 8
    have z9 := K2.out.2.1.c9
    have zf9 := K2.out.2.1.fr 9
    have z10 := K2.out.2.1.c10
    have zf10 := K2.out.2.1.fr 10
    have z11 := K2.out.2.1.c11
    have zf11 := K2.out.2.1.fr 11
    have z12 := K2.out.2.1.c12
    have zf12 := K2.out.2.1.fr 12
    have FIN : Hid (∀ u0 u1 u2 u3 u4 u5 u6 u7 u8 u9 u10 u11 u12, Below w.heap.size w (((((((((((((w2.setCell ⟨w.heap.size, 0, none⟩ u0).setCell ⟨w.heap.size, 1, none⟩ u1).setCell ⟨w.heap.size, 2, none⟩ u2).setCell ⟨w.heap.size, 3, none⟩ u3).setCell ⟨w.heap.size, 4, none⟩ u4).setCell ⟨w.heap.size, 5, none⟩ u5).setCell ⟨w.heap.size, 6, none⟩ u6).setCell ⟨w.heap.size, 7, none⟩ u7).setCell ⟨w.heap.size, 8, none⟩ u8).setCell ⟨w.heap.size, 9, none⟩ u9).setCell ⟨w.heap.size, 10, none⟩ u10).setCell ⟨w.heap.size, 11, none⟩ u11).setCell ⟨w.heap.size, 12, none⟩ u12)) := fun u0 u1 u2 u3 u4 u5 u6 u7 u8 u9 u10 u11 u12 => (((((((((((((K2.out.1.setCell (Nat.le_refl _) u0).setCell (Nat.le_refl _) u1).setCell (Nat.le_refl _) u2).setCell (Nat.le_refl _) u3).setCell (Nat.le_refl _) u4).setCell (Nat.le_refl _) u5).setCell (Nat.le_refl _) u6).setCell (Nat.le_refl _) u7).setCell (Nat.le_refl _) u8).setCell (Nat.le_refl _) u9).setCell (Nat.le_refl _) u10).setCell (Nat.le_refl _) u11).setCell (Nat.le_refl _) u12)
    clear K2
    go_wp2_with fail
    exact bodyPost_ret (v := .tuple #[.agg #[.string ⟨#[]⟩, .int .i64 0, .slice none 0 0, .slice none 0 0, .int .i64 0, .int .i64 0, .int .i64 0, .int .i64 0, .int .i64 0, .bool false, .bool false, .slice none 0 0, .int .i64 0], .bool false]) (by simp [results, Tryz.results107, go_sem, z0, z1, z2, z3, z4, z5, z6, z7, z8, z9, z10, z11, z12]) rfl ⟨.inr ⟨HFD.out, rfl⟩, FIN.out _ _ _ _ _ _ _ _ _ _ _ _ _⟩
end Go.Proofs.YtdooopkpnanekaaGreatDoor
/-
  A key taken out of a list, by the model.
-/
namespace Go.Proofs.YtdooopkpnanekaaGreatDoor
open Go.ChangeShapes Go.WideShapes Go.ChangeAt Go.RowKit Go.Sort
def offKey (key : ByteArray) (l : List (Ent × EntR)) : List (Ent × EntR) := l.filter fun q => !isKey key q.1
theorem offKey_next {key : ByteArray} {l : List (Ent × EntR)} {k : Nat} {q : Ent × EntR} (h : l[k]? = some q) : offKey key (l.take (k + 1)) = if isKey key q.1 then offKey key (l.take k) else offKey key (l.take k) ++ [q] := by
  unfold offKey
  rw [take_next h, List.filter_append]
  cases hk : isKey key q.1 <;> simp [hk]
theorem foot_sub {l m : List (Ent × EntR)} (h : l.Sublist m) : (foot l).Sublist (foot m) := by
  induction h with
  | slnil => exact .slnil
  | cons a _ ih => exact ih.trans (List.sublist_append_right _ _)
  | cons_cons a _ ih => exact (List.Sublist.refl _).append ih
theorem offKey_len (key : ByteArray) (l : List (Ent × EntR)) : (offKey key l).length ≤ l.length := List.length_filter_le _ _
set_option maxRecDepth 100000 in
set_option maxHeartbeats 8000000 in
theorem l8Without_any (w : World) (a : Option Addr) (cap : Nat) (l : List (Ent × EntR)) (key : ByteArray) (hl : l.length ≤ 1048576) (hi : EntsIn w a l) :
    Calls Tryz.prog 165 #[.slice a l.length cap, .string key] w fun e w' => (∃ v, e = .returned v ∧ OwnE w' w.heap.size v (offKey key l)) ∧ Below w.heap.size w w' := by
  obtain ⟨i0, hi0, hz0, hz1, hz2⟩ := info_parts infoEntry
  have HI : Hid (EntsIn w a l) := hi
  have HS : Hid (OwnE (w.alloc (.cells #[] 52)) w.heap.size (.slice (some ⟨w.heap.size, 0, none⟩) 0 0) (offKey key (l.take 0)) ∧ Below w.heap.size w (w.alloc (.cells #[] 52))) := ⟨OwnE.made0 w _ (Nat.le_refl _), (Below.refl _ _).alloc (Nat.le_refl _) _⟩
  clear hi
  obtain ⟨n, hn0⟩ : ∃ n, l.length = n := ⟨_, rfl⟩
  rw [hn0] at hl ⊢
  have HN : Hid (l.length = n) := hn0
  clear hn0
  go_enter Tryz.func165, Tryz.ntmps165
  go_wp2_with fail
  go_loopw [5, 6] (fun v i wr => ∃ k : Nat, k ≤ n ∧ i = .int .i64 (k : Int) ∧ OwnE wr w.heap.size v (offKey key (l.take k)) ∧ Below w.heap.size w wr) (fun _ i _ => n - (intOf i).toNat)
  case atStart => exact ⟨0, Nat.zero_le _, rfl, HS.out⟩
  case round =>
    obtain ⟨k, hk, rfl, ho, hb⟩ := hrel
    clear HS
    by_cases hlt : k < n
    · obtain ⟨⟨x, r⟩, hr⟩ : ∃ r, l[k]? = some r := ⟨l[k]'(by have := HN.out; omega), List.getElem?_eq_getElem _⟩
      rcases HI.out with h | ⟨b, off, rfl, hat⟩
      · subst h; simp at hr
      obtain ⟨p0, p1, p2, p3, p4, p5, p6, p7, p8, p9, p10, p11, p12⟩ := (hat.keep hb).cells hr
      have gk : (k : Int) < n := by omega
      have gk0 : (0 : Int) ≤ k := by omega
      have hnx := offKey_next (key := key) hr
      have hln : (offKey key (l.take k)).length ≤ 1048576 := by have := offKey_len key (l.take k); rw [List.length_take] at this; have := HN.out; omega
      obtain ⟨m, hm⟩ : ∃ m, m = offKey key (l.take k) := ⟨_, rfl⟩
      rw [← hm] at ho hnx hln
      obtain ⟨va, vc, rfl, hvc⟩ := row_form ho
      have HO : Hid (OwnE wr w.heap.size (.slice va m.length vc) m) := ho
      have HB : Hid (Below w.heap.size w wr) := hb
      clear hat hr hm ho hb
      cases he : (x.key.toList == key.toList)
      · rw [if_neg (by show ¬ (x.key.toList == key.toList) = true; rw [he]; decide)] at hnx
        have K2 : Below wr.heap.size wr (wr.alloc (.cells #[.string x.key, .int .i64 x.st, .slice r.ha x.hs.length r.hc, .slice r.ba x.bl.length r.bc, .int .i64 x.t, .int .i64 x.g, .int .i64 x.l, .int .i64 x.s, .int .i64 x.e, .bool x.b1, .bool x.b2, .slice r.ta x.ts.length r.tc, .int .i64 x.pins] 52)) := (Below.refl _ _).alloc (Nat.le_refl _) _
        have O2 : Hid ((wr.alloc (.cells #[.string x.key, .int .i64 x.st, .slice r.ha x.hs.length r.hc, .slice r.ba x.bl.length r.bc, .int .i64 x.t, .int .i64 x.g, .int .i64 x.l, .int .i64 x.s, .int .i64 x.e, .bool x.b1, .bool x.b2, .slice r.ta x.ts.length r.tc, .int .i64 x.pins] 52)).ownsRow w.heap.size 52 13 (.slice va m.length vc) m.length (entsW m)) := HO.out.below K2
        have s2 : Hid (w.heap.size ≤ (wr.alloc (.cells #[.string x.key, .int .i64 x.st, .slice r.ha x.hs.length r.hc, .slice r.ba x.bl.length r.bc, .int .i64 x.t, .int .i64 x.g, .int .i64 x.l, .int .i64 x.s, .int .i64 x.e, .bool x.b1, .bool x.b2, .slice r.ta x.ts.length r.tc, .int .i64 x.pins] 52)).heap.size) := by show _ ≤ _; have := K2.size; have := HB.out.size; omega
        have HA : Hid (∀ g cap w3, w3.ownsRow w.heap.size 52 13 (.slice (some ⟨g, 0, none⟩) (m.length + 1) cap) (m.length + 1) (entsW m ++ entW x r) → (wr.alloc (.cells #[.string x.key, .int .i64 x.st, .slice r.ha x.hs.length r.hc, .slice r.ba x.bl.length r.bc, .int .i64 x.t, .int .i64 x.g, .int .i64 x.l, .int .i64 x.s, .int .i64 x.e, .bool x.b1, .bool x.b2, .slice r.ta x.ts.length r.tc, .int .i64 x.pins] 52)).grownBy w3 (Value.slice va m.length vc).ownBlock → OwnE w3 w.heap.size (.slice (some ⟨g, 0, none⟩) (m.length + 1) cap) (offKey key (l.take (k + 1))) ∧ Below w.heap.size w w3) := fun g cap w3 h1 h2 => by
          have hB : Below w.heap.size (wr.alloc (.cells #[.string x.key, .int .i64 x.st, .slice r.ha x.hs.length r.hc, .slice r.ba x.bl.length r.bc, .int .i64 x.t, .int .i64 x.g, .int .i64 x.l, .int .i64 x.s, .int .i64 x.e, .bool x.b1, .bool x.b2, .slice r.ta x.ts.length r.tc, .int .i64 x.pins] 52)) w3 := (Below.refl _ _).grown h2 s2.out (fun q hq => row_ge O2.out q hq)
          refine ⟨?_, (HB.out.trans (K2.mono HB.out.size)).trans hB⟩
          rw [hnx]
          unfold OwnE
          rw [entsW_app]
          simpa [entsW] using h1
        have HW : Hid (∀ j u, (entW x r)[j]? = some u → (wr.alloc (.cells #[.string x.key, .int .i64 x.st, .slice r.ha x.hs.length r.hc, .slice r.ba x.bl.length r.bc, .int .i64 x.t, .int .i64 x.g, .int .i64 x.l, .int .i64 x.s, .int .i64 x.e, .bool x.b1, .bool x.b2, .slice r.ta x.ts.length r.tc, .int .i64 x.pins] 52)).cell? ((⟨wr.heap.size, 0, none⟩ : Addr).add j) = some u) := entW_cells wr x r _
        obtain ⟨mn, hmn⟩ : ∃ q, m.length = q := ⟨_, rfl⟩
        rw [hmn] at O2 HA hln hvc ⊢
        clear K2 hnx HO HB hmn
        go_wp2_with (at_builtin; refine wpList_append_lies _ rfl (.tmp 21) (.tmp 26) 26 rfl w.heap.size 52 i0 _ 13 152 Tryz.underlying26 hi0 hz0 hz1 hz2 rfl (by omega) _ mn (entsW m) rfl O2.out _ 1 1 (entW x r) rfl rfl HW.out (entW_one x r) (by omega) (by unfold maxLen; omega) (by omega) s2.out _ rfl ?_; intro g cp w3 h1 h2 h3 h4)
        go_roundw
        case rel => exact ⟨k + 1, by omega, by go_num, HA.out _ _ _ h1 h2⟩
        case measure => simp [intOf]; omega
      · rw [if_pos (by show (x.key.toList == key.toList) = true; rw [he])] at hnx
        have HA : Hid (OwnE wr w.heap.size (.slice va m.length vc) (offKey key (l.take (k + 1))) ∧ Below w.heap.size w wr) := ⟨by rw [hnx]; exact HO.out, HB.out⟩
        clear hnx HO HB
        generalize m.length = mn at *
        generalize x.key = xk at *
        go_wp2_with fail
        go_roundw
        case rel => exact ⟨k + 1, by omega, by go_num, HA.out⟩
        case measure => simp [intOf]; omega
    · have ek : k = n := by omega
      subst ek
      obtain ⟨va, vc, rfl, _⟩ := row_form ho
      have HE : Hid ((∃ v', Ending.returned (.slice va (offKey key (l.take k)).length vc) = .returned v' ∧ OwnE wr w.heap.size v' (offKey key l)) ∧ Below w.heap.size w wr) := ⟨⟨_, rfl, by rw [List.take_of_length_le (by have := HN.out; omega)] at ho ⊢; exact ho⟩, hb⟩
      clear ho hb
      go_wp2_with fail
      go_ret
      exact HE.out
theorem EntsO.without {w w' : World} {base : Nat} {v v' : Value} {l : List (Ent × EntR)} {key : ByteArray} (h : EntsO w base v l) (hb : Below w.heap.size w w') (hbase : base ≤ w.heap.size) (ho : OwnE w' w.heap.size v' (offKey key l)) : EntsO w' base v' (offKey key l) := by
  have nd := List.nodup_append.1 h.nd
  have sub : (foot (offKey key l)).Sublist (foot l) := foot_sub List.filter_sublist
  refine ⟨ho.lower hbase, fun q hq => (h.rows q (List.mem_filter.1 hq).1).below hb, List.nodup_append.2 ⟨by cases v'.ownBlock <;> simp, nd.2.1.sublist sub, fun a ha b hb2 e => ?_⟩⟩
  subst e
  simp only [Option.mem_toList] at ha
  have h1 := (World.ownsRow.lt ho a ha).1
  have h2 := h.lt (List.mem_append.2 (.inr (sub.subset hb2)))
  omega
end Go.Proofs.YtdooopkpnanekaaGreatDoor
/-
  A key taken out of a store, by the model.
-/
namespace Go.Proofs.YtdooopkpnanekaaGreatDoor
open Go.ChangeShapes Go.WideShapes Go.ChangeAt Go.RowKit Go.Sort
theorem row_far1 {w : World} {base : Nat} {e : TypeId} {size : Nat} {v : Value} {n : Nat} {xs : List Value} (h : w.ownsRow base e size v n xs) {b i : Nat} (u : Value) (hb : v.ownBlock ≠ some b) : (w.setCell ⟨b, i, none⟩ u).ownsRow base e size v n xs := by
  obtain ⟨h1, h2⟩ := h
  refine ⟨h1, ?_⟩
  rcases h2 with h2 | ⟨g, c, cur, e', hg, hh, hrest⟩
  · exact .inl h2
  · refine .inr ⟨g, c, cur, e', hg, ?_, hrest⟩
    rw [heap_setCell_other w ⟨b, i, none⟩ g u (by intro e2; simp only at e2; subst e2; exact hb (by rw [e']; rfl))]
    exact hh
theorem EntsO.ne {w : World} {base : Nat} {v : Value} {l : List (Ent × EntR)} (h : EntsO w base v l) {b i : Nat} (u : Value) (hb : b ∉ v.ownBlock.toList ++ foot l) : EntsO (w.setCell ⟨b, i, none⟩ u) base v l :=
  ⟨row_far1 h.own u (fun e => hb (List.mem_append.2 (.inl (by simp [e])))), fun q hq => (h.rows q hq).far (by simp) fun b' hb' _ o =>
    ⟨World.cell?_setCell_other _ _ _ _ (by intro e; have := congrArg Addr.block e; simp at this; subst this; exact hb (List.mem_append.2 (.inr (List.mem_flatMap.2 ⟨q, hq, hb'⟩)))), World.frozen?_setCell _ _ _ _⟩, h.nd⟩
theorem EntsO.in {w : World} {base : Nat} {v : Value} {l : List (Ent × EntR)} (h : EntsO w base v l) : ∃ a c, v = .slice a l.length c ∧ l.length ≤ c ∧ EntsIn w a l := h.own.at fun q hq => (h.rows q hq).in
theorem foot_off {key : ByteArray} {l : List (Ent × EntR)} {b : Nat} (h : b ∈ foot (offKey key l)) : b ∈ foot l := (foot_sub List.filter_sublist).subset h
set_option maxRecDepth 100000 in
set_option maxHeartbeats 8000000 in
theorem l8Drop_at (w : World) (B base : Nat) (bu gu : Int) (v1 v2 : Value) (l1 l2 : List (Ent × EntR)) (key : ByteArray) (hs : S4 w B (.int .i64 bu) (.int .i64 gu) v1 v2) (h : StoO w base v1 v2 l1 l2) (hbase : base ≤ w.heap.size) (hB1 : B ∉ v1.ownBlock.toList ++ foot l1) (hB2 : B ∉ v2.ownBlock.toList ++ foot l2) (n1 : l1.length ≤ 1048576) (n2 : l2.length ≤ 1048576) :
    Calls Tryz.prog 120 #[.pointer (some ⟨B, 0, none⟩), .string key] w fun e w' => e = .returned (.tuple #[]) ∧ (∃ u1 u2, S4 w' B (.int .i64 bu) (.int .i64 gu) u1 u2 ∧ StoO w' base u1 u2 (offKey key l1) (offKey key l2) ∧ B ∉ u1.ownBlock.toList ++ foot (offKey key l1) ∧ B ∉ u2.ownBlock.toList ++ foot (offKey key l2)) ∧ Below B w w' := by
  obtain ⟨a1, c1, rfl, _, i1⟩ := h.t.in
  obtain ⟨a2, c2, rfl, _, i2⟩ := h.k.in
  have hBl := hs.lt
  have C1 : Hid (Calls Tryz.prog 165 #[.slice a1 l1.length c1, .string key] w fun e w1 => (∃ u1c u1a u1n, e = .returned (.slice u1a u1n u1c) ∧ (S4 (w1.setCell ⟨B, 2, none⟩ (.slice u1a u1n u1c)) B (.int .i64 bu) (.int .i64 gu) (.slice u1a u1n u1c) (.slice a2 l2.length c2) ∧ w1.cell? ⟨B, 2, none⟩ = some (.slice a1 l1.length c1) ∧ w1.frozen? ⟨B, 2, none⟩ = false ∧ Below B w (w1.setCell ⟨B, 2, none⟩ (.slice u1a u1n u1c)) ∧
      StoO (w1.setCell ⟨B, 2, none⟩ (.slice u1a u1n u1c)) base (.slice u1a u1n u1c) (.slice a2 l2.length c2) (offKey key l1) l2 ∧ base ≤ (w1.setCell ⟨B, 2, none⟩ (.slice u1a u1n u1c)).heap.size ∧ B ∉ (Value.slice u1a u1n u1c).ownBlock.toList ++ foot (offKey key l1)))) := by
    refine (l8Without_any w a1 c1 l1 key n1 i1).mono ?_
    rintro e w1 ⟨⟨u, rfl, ho⟩, hb⟩
    obtain ⟨ua, uc, rfl, _⟩ := row_form ho
    have t1 := h.t.without hb hbase ho
    have k1 := h.k.below hb
    have s1 := hs.keep hb
    have nB : B ∉ (Value.slice ua (offKey key l1).length uc).ownBlock.toList ++ foot (offKey key l1) := fun hm => by
      rcases List.mem_append.1 hm with hm | hm
      · simp only [Option.mem_toList] at hm
        have := (World.ownsRow.lt ho B hm).1
        omega
      · exact hB1 (List.mem_append.2 (.inr (foot_off hm)))
    refine ⟨uc, ua, _, rfl, s1.set2 _, s1.c2, s1.fr 2, (hb.mono (Nat.le_of_lt hBl)).setCell (Nat.le_refl _) _, ⟨t1.ne _ nB, k1.ne _ hB2, fun b h1 h2 => ?_⟩, by have := hb.size; simp; omega, nB⟩
    rcases List.mem_append.1 h1 with h1 | h1
    · simp only [Option.mem_toList] at h1
      have := (World.ownsRow.lt ho b h1).1
      have := h.k.lt h2
      omega
    · exact h.nd b (List.mem_append.2 (.inr (foot_off h1))) h2
  have C2 : Hid (∀ X u1, S4 X B (.int .i64 bu) (.int .i64 gu) u1 (.slice a2 l2.length c2) → Below B w X → StoO X base u1 (.slice a2 l2.length c2) (offKey key l1) l2 → base ≤ X.heap.size → B ∉ u1.ownBlock.toList ++ foot (offKey key l1) → Calls Tryz.prog 165 #[.slice a2 l2.length c2, .string key] X fun e w1 => (∃ u2c u2a u2n, e = .returned (.slice u2a u2n u2c) ∧ (w1.cell? ⟨B, 3, none⟩ = some (.slice a2 l2.length c2) ∧ w1.frozen? ⟨B, 3, none⟩ = false ∧ ((∃ u1 u2, S4 (w1.setCell ⟨B, 3, none⟩ (.slice u2a u2n u2c)) B (.int .i64 bu) (.int .i64 gu) u1 u2 ∧ StoO (w1.setCell ⟨B, 3, none⟩ (.slice u2a u2n u2c)) base u1 u2 (offKey key l1) (offKey key l2) ∧ B ∉ u1.ownBlock.toList ++ foot (offKey key l1) ∧ B ∉ u2.ownBlock.toList ++ foot (offKey key l2)) ∧ Below B w (w1.setCell ⟨B, 3, none⟩ (.slice u2a u2n u2c)))))) := fun X u1 s hX hst hbX nB1 => by
    have hin := hst.k.in
    obtain ⟨a3, c3, e3, _, i3⟩ := hin
    simp only [Value.slice.injEq, true_and] at e3
    obtain ⟨rfl, rfl⟩ := e3
    refine (l8Without_any X a2 c2 l2 key n2 i3).mono ?_
    rintro e w1 ⟨⟨u, rfl, ho⟩, hb⟩
    obtain ⟨ua, uc, rfl, _⟩ := row_form ho
    have k1 := hst.k.without hb hbX ho
    have t1 := hst.t.below hb
    have s1 := s.keep hb
    have sl := s.lt
    have nB : B ∉ (Value.slice ua (offKey key l2).length uc).ownBlock.toList ++ foot (offKey key l2) := fun hm => by
      rcases List.mem_append.1 hm with hm | hm
      · simp only [Option.mem_toList] at hm
        have := (World.ownsRow.lt ho B hm).1
        omega
      · exact hB2 (List.mem_append.2 (.inr (foot_off hm)))
    refine ⟨uc, ua, _, rfl, s1.c3, s1.fr 3, ⟨u1, _, s1.set3 _, ⟨t1.ne _ nB1, k1.ne _ nB, fun b h1 h2 => ?_⟩, nB1, nB⟩, (hX.trans (hb.mono (Nat.le_of_lt sl))).setCell (Nat.le_refl _) _⟩
    rcases List.mem_append.1 h2 with h2 | h2
    · simp only [Option.mem_toList] at h2
      have := (World.ownsRow.lt ho b h2).1
      have := hst.t.lt h1
      omega
    · exact hst.nd b h1 (List.mem_append.2 (.inr (foot_off h2)))
  have e2 := hs.c2
  clear hs h hbase hB1 hB2 n1 n2 i1 i2 hBl
  generalize l1.length = m1 at *
  generalize l2.length = m2 at *
  go_enter Tryz.func120, Tryz.ntmps120
  go_wp2_with fail
  refine C1.out.mono ?_
  rintro e w1 ⟨uc, ua, un, rfl, s1, x2, xf, hb1, st1, sz1, nB1⟩
  have CC := C2.out _ _ s1 hb1 st1 sz1 nB1
  have y3 := s1.c3
  clear C1 C2 s1 hb1 st1 sz1 nB1 e2
  go_wp2_with fail
  refine CC.mono ?_
  rintro e w2 ⟨vc, va, vn, rfl, x3, xf3, hfin, hb2⟩
  have HFIN : Hid _ := hfin
  have HB2 : Hid _ := hb2
  clear hfin hb2 CC y3 x2 xf
  go_wp2_with fail
  exact bodyPost_end (v := .tuple #[]) (by simp [results, Tryz.results120, go_sem]) rfl ⟨rfl, HFIN.out, HB2.out⟩
end Go.Proofs.YtdooopkpnanekaaGreatDoor
/-
  Nothing but one box turned; an entry of a key is dropped so.
-/
namespace Go.Proofs.YtdooopkpnanekaaGreatDoor
open Go.ChangeShapes Go.WideShapes Go.ChangeAt Go.RowKit Go.Sort
/-- Of what was there nothing but block B turned. -/
structure Only (B : Nat) (w w' : World) : Prop where
  os : w'.os = w.os
  tape : w'.tape = w.tape
  output : w'.output = w.output
  size : w.heap.size ≤ w'.heap.size
  block : ∀ k, k < w.heap.size → k ≠ B → w'.heap[k]? = w.heap[k]?
theorem Only.of {B : Nat} {w w' : World} (h : Below w.heap.size w w') : Only B w w' := ⟨h.os, h.tape, h.output, h.size, fun k hk _ => h.block k hk⟩
theorem Only.trans {B : Nat} {w w' w'' : World} (h : Only B w w') (k : Only B w' w'') : Only B w w'' := ⟨k.os.trans h.os, k.tape.trans h.tape, k.output.trans h.output, Nat.le_trans h.size k.size, fun j hj hn => (k.block j (Nat.lt_of_lt_of_le hj h.size) hn).trans (h.block j hj hn)⟩
theorem Only.set {B : Nat} {w w' : World} (h : Only B w w') (i : Nat) (u : Value) : Only B w (w'.setCell ⟨B, i, none⟩ u) := by
  refine ⟨by rw [setCell_eq]; exact h.os, by rw [setCell_eq]; exact h.tape, by rw [setCell_eq]; exact h.output, by simpa using h.size, fun k hk hn => ?_⟩
  have : (w'.setCell ⟨B, i, none⟩ u).heap[k]? = w'.heap[k]? := by
    rw [setCell_eq]
    have : B ≠ k := fun e => hn e.symm
    simp [mapBlock, Array.getElem?_modify, this]
  rw [this, h.block k hk hn]
theorem Only.below {B : Nat} {w w' : World} (h : Only B w w') (hB : B ≤ w.heap.size) : Below B w w' := ⟨h.os, h.tape, h.output, h.size, fun k hk => h.block k (Nat.lt_of_lt_of_le hk hB) (by omega)⟩
theorem Only.cell {B b : Nat} {w w' : World} (h : Only B w w') (hb : b < w.heap.size) (hn : b ≠ B) (o : Nat) : w'.cell? ⟨b, o, none⟩ = w.cell? ⟨b, o, none⟩ := World.cell?_of_block (w := w) (h.block b hb hn)
theorem Only.frozen {B b : Nat} {w w' : World} (h : Only B w w') (hb : b < w.heap.size) (hn : b ≠ B) (o : Nat) : w'.frozen? ⟨b, o, none⟩ = w.frozen? ⟨b, o, none⟩ := World.frozen?_of_block (w := w) (h.block b hb hn)
theorem Only.lv {B base : Nat} {w w' : World} {x : Ent} {r : EntR} (h : Only B w w') (hx : EntLV w base x r) (hn : B ∉ rblk r) : EntLV w' base x r :=
  hx.far h.size fun _ hb hl o => ⟨h.cell hl (fun e => hn (e ▸ hb)) o, h.frozen hl (fun e => hn (e ▸ hb)) o⟩
set_option maxRecDepth 100000 in
set_option maxHeartbeats 8000000 in
theorem l8DropO_at (w : World) (B base : Nat) (bu gu : Int) (v1 v2 : Value) (l1 l2 : List (Ent × EntR)) (key : ByteArray) (hs : S4 w B (.int .i64 bu) (.int .i64 gu) v1 v2) (h : StoO w base v1 v2 l1 l2) (hbase : base ≤ w.heap.size) (hB1 : B ∉ v1.ownBlock.toList ++ foot l1) (hB2 : B ∉ v2.ownBlock.toList ++ foot l2) (n1 : l1.length ≤ 1048576) (n2 : l2.length ≤ 1048576) :
    Calls Tryz.prog 120 #[.pointer (some ⟨B, 0, none⟩), .string key] w fun e w' => e = .returned (.tuple #[]) ∧ (∃ u1 u2, S4 w' B (.int .i64 bu) (.int .i64 gu) u1 u2 ∧ StoO w' base u1 u2 (offKey key l1) (offKey key l2) ∧ B ∉ u1.ownBlock.toList ++ foot (offKey key l1) ∧ B ∉ u2.ownBlock.toList ++ foot (offKey key l2) ∧ (∀ b ∈ u1.ownBlock.toList, w.heap.size ≤ b) ∧ ∀ b ∈ u2.ownBlock.toList, w.heap.size ≤ b) ∧ Only B w w' := by
  obtain ⟨a1, c1, rfl, _, i1⟩ := h.t.in
  obtain ⟨a2, c2, rfl, _, i2⟩ := h.k.in
  have hBl := hs.lt
  have C1 : Hid (Calls Tryz.prog 165 #[.slice a1 l1.length c1, .string key] w fun e w1 => (∃ u1c u1a u1n, e = .returned (.slice u1a u1n u1c) ∧ (S4 (w1.setCell ⟨B, 2, none⟩ (.slice u1a u1n u1c)) B (.int .i64 bu) (.int .i64 gu) (.slice u1a u1n u1c) (.slice a2 l2.length c2) ∧ w1.cell? ⟨B, 2, none⟩ = some (.slice a1 l1.length c1) ∧ w1.frozen? ⟨B, 2, none⟩ = false ∧ Only B w (w1.setCell ⟨B, 2, none⟩ (.slice u1a u1n u1c)) ∧
      StoO (w1.setCell ⟨B, 2, none⟩ (.slice u1a u1n u1c)) base (.slice u1a u1n u1c) (.slice a2 l2.length c2) (offKey key l1) l2 ∧ base ≤ (w1.setCell ⟨B, 2, none⟩ (.slice u1a u1n u1c)).heap.size ∧ B ∉ (Value.slice u1a u1n u1c).ownBlock.toList ++ foot (offKey key l1) ∧ ∀ b ∈ (Value.slice u1a u1n u1c).ownBlock.toList, w.heap.size ≤ b))) := by
    refine (l8Without_any w a1 c1 l1 key n1 i1).mono ?_
    rintro e w1 ⟨⟨u, rfl, ho⟩, hb⟩
    obtain ⟨ua, uc, rfl, _⟩ := row_form ho
    have t1 := h.t.without hb hbase ho
    have k1 := h.k.below hb
    have s1 := hs.keep hb
    have nB : B ∉ (Value.slice ua (offKey key l1).length uc).ownBlock.toList ++ foot (offKey key l1) := fun hm => by
      rcases List.mem_append.1 hm with hm | hm
      · simp only [Option.mem_toList] at hm
        have := (World.ownsRow.lt ho B hm).1
        omega
      · exact hB1 (List.mem_append.2 (.inr (foot_off hm)))
    refine ⟨uc, ua, _, rfl, s1.set2 _, s1.c2, s1.fr 2, (Only.of hb).set _ _, ⟨t1.ne _ nB, k1.ne _ hB2, fun b h1 h2 => ?_⟩, by have := hb.size; simp; omega, nB, fun b hm => by simp only [Option.mem_toList] at hm; exact (World.ownsRow.lt ho b hm).1⟩
    rcases List.mem_append.1 h1 with h1 | h1
    · simp only [Option.mem_toList] at h1
      have := (World.ownsRow.lt ho b h1).1
      have := h.k.lt h2
      omega
    · exact h.nd b (List.mem_append.2 (.inr (foot_off h1))) h2
  have C2 : Hid (∀ X u1, S4 X B (.int .i64 bu) (.int .i64 gu) u1 (.slice a2 l2.length c2) → Only B w X → StoO X base u1 (.slice a2 l2.length c2) (offKey key l1) l2 → base ≤ X.heap.size → B ∉ u1.ownBlock.toList ++ foot (offKey key l1) → (∀ b ∈ u1.ownBlock.toList, w.heap.size ≤ b) → Calls Tryz.prog 165 #[.slice a2 l2.length c2, .string key] X fun e w1 => (∃ u2c u2a u2n, e = .returned (.slice u2a u2n u2c) ∧ (w1.cell? ⟨B, 3, none⟩ = some (.slice a2 l2.length c2) ∧ w1.frozen? ⟨B, 3, none⟩ = false ∧ ((∃ u1 u2, S4 (w1.setCell ⟨B, 3, none⟩ (.slice u2a u2n u2c)) B (.int .i64 bu) (.int .i64 gu) u1 u2 ∧ StoO (w1.setCell ⟨B, 3, none⟩ (.slice u2a u2n u2c)) base u1 u2 (offKey key l1) (offKey key l2) ∧ B ∉ u1.ownBlock.toList ++ foot (offKey key l1) ∧ B ∉ u2.ownBlock.toList ++ foot (offKey key l2) ∧ (∀ b ∈ u1.ownBlock.toList, w.heap.size ≤ b) ∧ ∀ b ∈ u2.ownBlock.toList, w.heap.size ≤ b) ∧ Only B w (w1.setCell ⟨B, 3, none⟩ (.slice u2a u2n u2c)))))) := fun X u1 s hX hst hbX nB1 hge1 => by
    have hin := hst.k.in
    obtain ⟨a3, c3, e3, _, i3⟩ := hin
    simp only [Value.slice.injEq, true_and] at e3
    obtain ⟨rfl, rfl⟩ := e3
    refine (l8Without_any X a2 c2 l2 key n2 i3).mono ?_
    rintro e w1 ⟨⟨u, rfl, ho⟩, hb⟩
    obtain ⟨ua, uc, rfl, _⟩ := row_form ho
    have k1 := hst.k.without hb hbX ho
    have t1 := hst.t.below hb
    have s1 := s.keep hb
    have sl := s.lt
    have nB : B ∉ (Value.slice ua (offKey key l2).length uc).ownBlock.toList ++ foot (offKey key l2) := fun hm => by
      rcases List.mem_append.1 hm with hm | hm
      · simp only [Option.mem_toList] at hm
        have := (World.ownsRow.lt ho B hm).1
        omega
      · exact hB2 (List.mem_append.2 (.inr (foot_off hm)))
    refine ⟨uc, ua, _, rfl, s1.c3, s1.fr 3, ⟨u1, _, s1.set3 _, ⟨t1.ne _ nB1, k1.ne _ nB, fun b h1 h2 => ?_⟩, nB1, nB, hge1, fun b hm => by simp only [Option.mem_toList] at hm; exact Nat.le_trans hX.size (World.ownsRow.lt ho b hm).1⟩, (hX.trans (Only.of hb)).set _ _⟩
    rcases List.mem_append.1 h2 with h2 | h2
    · simp only [Option.mem_toList] at h2
      have := (World.ownsRow.lt ho b h2).1
      have := hst.t.lt h1
      omega
    · exact hst.nd b h1 (List.mem_append.2 (.inr (foot_off h2)))
  have e2 := hs.c2
  clear hs h hbase hB1 hB2 n1 n2 i1 i2 hBl
  generalize l1.length = m1 at *
  generalize l2.length = m2 at *
  go_enter Tryz.func120, Tryz.ntmps120
  go_wp2_with fail
  refine C1.out.mono ?_
  rintro e w1 ⟨uc, ua, un, rfl, s1, x2, xf, hb1, st1, sz1, nB1, gB1⟩
  have CC := C2.out _ _ s1 hb1 st1 sz1 nB1 gB1
  have y3 := s1.c3
  clear C1 C2 s1 hb1 st1 sz1 nB1 gB1 e2
  go_wp2_with fail
  refine CC.mono ?_
  rintro e w2 ⟨vc, va, vn, rfl, x3, xf3, hfin, hb2⟩
  have HFIN : Hid _ := hfin
  have HB2 : Hid _ := hb2
  clear hfin hb2 CC y3 x2 xf
  go_wp2_with fail
  exact bodyPost_end (v := .tuple #[]) (by simp [results, Tryz.results120, go_sem]) rfl ⟨rfl, HFIN.out, HB2.out⟩
end Go.Proofs.YtdooopkpnanekaaGreatDoor
/-
  Entries of one's own: one more ahead of all others, the last one less.
-/
namespace Go.Proofs.YtdooopkpnanekaaGreatDoor
open Go.ChangeShapes Go.WideShapes Go.ChangeAt Go.RowKit Go.Sort
theorem OwnE.one (w : World) (x : Ent) (r : EntR) : OwnE (w.alloc (.cells #[.string x.key, .int .i64 x.st, .slice r.ha x.hs.length r.hc, .slice r.ba x.bl.length r.bc, .int .i64 x.t, .int .i64 x.g, .int .i64 x.l, .int .i64 x.s, .int .i64 x.e, .bool x.b1, .bool x.b2, .slice r.ta x.ts.length r.tc, .int .i64 x.pins] 52)) w.heap.size (.slice (some ⟨w.heap.size, 0, none⟩) 1 1) [(x, r)] := by
  unfold OwnE
  exact ⟨by rw [entsW_len], .inr ⟨w.heap.size, 1, #[.string x.key, .int .i64 x.st, .slice r.ha x.hs.length r.hc, .slice r.ba x.bl.length r.bc, .int .i64 x.t, .int .i64 x.g, .int .i64 x.l, .int .i64 x.s, .int .i64 x.e, .bool x.b1, .bool x.b2, .slice r.ta x.ts.length r.tc, .int .i64 x.pins], rfl, Nat.le_refl _, heap_alloc_new _ _, Nat.le_refl _, by unfold maxLen; omega, rfl, by simp [entsW, entW]⟩⟩
theorem OwnE.init {w : World} {base : Nat} {a : Option Addr} {n c : Nat} {l : List (Ent × EntR)} {q : Ent × EntR} (hn : l.length = n) (h : OwnE w base (.slice a (n + 1) c) (l ++ [q])) : OwnE w base (.slice a n c) l := by
  unfold OwnE at h ⊢
  obtain ⟨h0, h1⟩ := h
  have hl : (l ++ [q]).length = n + 1 := by simp [hn]
  rw [hl] at h0 h1
  rcases h1 with ⟨e1, e2⟩ | ⟨g, cap, cur, e, hbg, hh, hle, hcm, hsz, hx⟩
  · omega
  · obtain ⟨rfl, _, rfl⟩ := Value.slice.inj e
    rw [hn]
    refine ⟨by rw [entsW_len, hn], .inr ⟨g, c, cur, rfl, hbg, hh, by omega, hcm, hsz, ?_⟩⟩
    have := congrArg (List.take (n * 13)) hx
    rw [List.take_take, Nat.min_eq_left (by omega), entsW_app, List.take_left' (by rw [entsW_len, hn])] at this
    exact this
theorem EntsO.init {w : World} {base : Nat} {a : Option Addr} {n c : Nat} {l : List (Ent × EntR)} {q : Ent × EntR} (hn : l.length = n) (h : EntsO w base (.slice a (n + 1) c) (l ++ [q])) : EntsO w base (.slice a n c) l :=
  ⟨OwnE.init hn h.own, fun z hz => h.rows z (List.mem_append_left _ hz), by
    have := h.nd
    rw [foot_app, ← List.append_assoc] at this
    have e : (Value.slice a n c).ownBlock = (Value.slice a (n + 1) c).ownBlock := by cases a <;> rfl
    rw [e]
    exact (List.nodup_append.1 this).1⟩
theorem EntsO.last {w : World} {base : Nat} {v : Value} {l : List (Ent × EntR)} {x : Ent} {r : EntR} (h : EntsO w base v (l ++ [(x, r)])) : EntLV w base x r ∧ (∀ b ∈ rblk r, b ∉ v.ownBlock.toList ++ foot l) := by
  refine ⟨h.rows (x, r) (by simp), fun b hb hm => ?_⟩
  have := h.nd
  rw [foot_app, ← List.append_assoc, foot_one] at this
  exact (List.nodup_append.1 this).2.2 b hm b hb rfl
theorem EntsO.ahead {w w' : World} {base : Nat} {u v' : Value} {m : List (Ent × EntR)} {x : Ent} {r : EntR} (h : EntsO w base u m) (hx : EntLV w base x r) (hd : ∀ b ∈ rblk r, b ∉ foot m) (hb : Below w.heap.size w w') (ho : OwnE w' w.heap.size v' ((x, r) :: m)) (hbase : base ≤ w.heap.size) : EntsO w' base v' ((x, r) :: m) := by
  refine ⟨ho.lower hbase, fun q hq => ?_, ?_⟩
  · rcases List.mem_cons.1 hq with rfl | hq
    · exact hx.below hb
    · exact (h.rows q hq).below hb
  · have e : foot ((x, r) :: m) = rblk r ++ foot m := by rw [← foot_one (x, r), ← foot_app]; rfl
    rw [e]
    have n1 : (rblk r ++ foot m).Nodup := List.nodup_append.2 ⟨hx.nd, (List.nodup_append.1 h.nd).2.1, fun a ha b hb e => hd a ha (e ▸ hb)⟩
    refine List.nodup_append.2 ⟨by cases v'.ownBlock <;> simp, n1, fun a ha b hb2 e => ?_⟩
    subst e
    simp only [Option.mem_toList] at ha
    have := (World.ownsRow.lt ho a ha).1
    rcases List.mem_append.1 hb2 with k | k
    · have := hx.lts.mem k
      omega
    · have := h.lt (List.mem_append.2 (.inr k))
      omega
theorem not_own {w : World} {base : Nat} {v : Value} {l : List (Ent × EntR)} {B : Nat} (ho : OwnE w base v l) (hB : B < base) : B ∉ v.ownBlock.toList := fun h => by
  simp only [Option.mem_toList] at h
  have := (World.ownsRow.lt ho B h).1
  omega
end Go.Proofs.YtdooopkpnanekaaGreatDoor
/-
  slices.Insert of one pointer ahead of a row of the call's own.
-/
namespace Go.Proofs.YtdooopkpnanekaaGreatDoor
open Go.ChangeShapes Go.WideShapes Go.ChangeAt Go.RowKit Go.Sort
theorem hidP {p : Prop} (h : p) : Hid p := h
theorem ptr_size1 : (Tryz.prog.info? 101).map (·.size) = some 1 := by kernel_rfl
theorem ptr_mixed : Tryz.prog.follows .mixedOrders = true := by kernel_rfl
theorem run_copy_row1 (w : World) (ty : TypeId) (g o dLen dCap : Nat) (a : Addr) (sLen sCap n : Nat) (cur : Array Value) (t : TypeId) (cs : List Value)
    (hg : w.heap[g]? = some (.cells cur t (0, 0))) (hn : n = Nat.min sLen dLen) (hcl : cs.length = n)
    (hsrc : ∀ j v, cs[j]? = some v → w.cell? (a.add j) = some v) (hfit : o + cs.length ≤ cur.size) (h1 : ∀ v ∈ cs, v.oneCell' = true) :
    (Builtin.copy_ #[94, 94] ty #[.slice (some ⟨g, o, none⟩) dLen dCap, .slice (some a) sLen sCap]).run Tryz.prog w =
      .ok (goInt n) (w.setRow g (cur.toList.take o ++ cs ++ cur.toList.drop (o + cs.length)).toArray) := by
  have hl := run_loadCells_list (P := Tryz.prog) w a cs hsrc
  have hst := run_storeCells_at Tryz.prog g o t cs 0 cur w hg (by simpa using hfit) h1
  have hu := Tryz.underlying94
  cases hq : Tryz.prog.info? 101 with
  | none => have := ptr_size1; simp [hq] at this
  | some i =>
    have hi : i.size = 1 := by have := ptr_size1; simpa [hq] using this
    rw [hcl] at hl
    simp [Builtin.copy_, run_underlying hu, Builtin.lenOf, Builtin.firstCells, sizeOf, typeInfo, hq, hi, ← hn, hl, hst]
theorem wp_copy_runP (w : World) {o : Oper} {a : Act} {K : Act → World → Prop} {Q : Exit → Act → World → Prop} (d s : Operand) (t t' : TypeId)
    (ho : o.op = .call { callee := .builtin .copy, args := #[d, s], argTypes := #[t, t'] }) (v u : Value) (hd : a.eval d = v) (hs : a.eval s = u) {v' : Value} {w' : World}
    (hr : (Builtin.copy_ #[t, t'] o.type #[v, u]).run Tryz.prog w = .ok v' w') (h : K (a.put o.dst v') w') : o.wp Tryz.prog a w K Q := by
  unfold Oper.wp execOp
  simp only [ho, resolve, invoke, builtin, Sem.run_bind, Sem.run_pure, Result.andThen_ok, List.map_toArray, List.map_cons, List.map_nil, hd, hs, hr]
  exact h
theorem wpList_copy_runP (w : World) {ops : Array Oper} {rest : List Oper} {o : Oper} {a : Act} {Q : Exit → Act → World → Prop} (hgd : o.guard = none) (d s : Operand) (t t' : TypeId)
    (ho : o.op = .call { callee := .builtin .copy, args := #[d, s], argTypes := #[t, t'] }) (v u : Value) (hd : a.eval d = v) (hs : a.eval s = u) {v' : Value} {w' : World}
    (hr : (Builtin.copy_ #[t, t'] o.type #[v, u]).run Tryz.prog w = .ok v' w') (h : wpList Tryz.prog ops Q rest (a.put o.dst v') w') : wpList Tryz.prog ops Q (o :: rest) a w :=
  wpList_plain hgd fun _ hK => wp_copy_runP w d s t t' ho v u hd hs hr (hK _ _ h)
theorem grown_setRowP (w : World) (g : Nat) (cs : Array Value) : w.grownBy (w.setRow g cs) (some g) :=
  ⟨rfl, rfl, rfl, by simp, fun i _ hi => setRow_other w g i cs (fun e => hi (by rw [e]))⟩
theorem below_setRowP {base g : Nat} (w : World) (cs : Array Value) (hg : base ≤ g) (hw : base ≤ w.heap.size) : Below base w (w.setRow g cs) :=
  (Below.refl base w).grown (grown_setRowP w g cs) hw (fun k hk => by cases hk; exact hg)
theorem newRowP_at (w : World) (R : Array Value) (t : TypeId) : (w.drew.alloc (.cells R t)).heap[w.heap.size]? = some (.cells R t (0, 0)) := (MapKept.heap_alloc w.drew _).1
theorem newRowP_old (w : World) (R : Array Value) (t : TypeId) (k : Nat) (h : k < w.heap.size) : (w.drew.alloc (.cells R t)).heap[k]? = w.heap[k]? := Below.heap_alloc w.drew _ k h
/-- What an insertion leaves: a row of one's own, grown by nothing but its own block. -/
def InsRes (w : World) (base : Nat) (v : Value) (l : List Hdl) (e : Ending) (w' : World) : Prop :=
  ∃ g c, e = .returned (.slice (some ⟨g, 0, none⟩) l.length c) ∧ OwnP w' base (.slice (some ⟨g, 0, none⟩) l.length c) l ∧ w.grownBy w' v.ownBlock ∧ (v.ownBlock = some g ∨ w.heap.size ≤ g)
theorem ownP_row {w : World} {base g c : Nat} {R : Array Value} {T : List Value} {l : List Hdl} (hg : w.heap[g]? = some (.cells R 101 (0, 0))) (hbg : base ≤ g) (hc : l.length ≤ c) (hcm : c ≤ maxLen) (hs : R.size = c)
    (hR : R.toList = l.map hP ++ T) : OwnP w base (.slice (some ⟨g, 0, none⟩) l.length c) l := by
  unfold OwnP
  refine ⟨by simp, .inr ⟨g, c, R, rfl, hbg, hg, hc, hcm, by omega, ?_⟩⟩
  rw [hR, List.take_left' (by simp)]
theorem wpList_append1P {ops : Array Oper} {rest : List Oper} {o : Oper} {a' : Act} {Q : Exit → Act → World → Prop} (w : World) (hgd : o.guard = none) (s x : Operand) (ho : o.op = .call { callee := .builtin .append, args := #[s, x], argTypes := #[94, 94] }) (base : Nat) (v : Value) (h0 : Hdl) (vb : Nat) (hs : a'.eval s = v) (hx : a'.eval x = .slice (some ⟨vb, 0, none⟩) 1 1) (hown : OwnP w base v []) (c0 : w.cell? ⟨vb, 0, none⟩ = some (hP h0)) (hbase : base ≤ w.heap.size)
    (hh : ∀ g c' w', OwnP w' base (.slice (some ⟨g, 0, none⟩) 1 c') [h0] → w.grownBy w' v.ownBlock → (v.ownBlock = some g ∨ w.heap.size ≤ g) → wpList Tryz.prog ops Q rest (a'.put o.dst (.slice (some ⟨g, 0, none⟩) 1 c')) w') : wpList Tryz.prog ops Q (o :: rest) a' w := by
  obtain ⟨i0, hi, hz0, hz1, hz2⟩ := info_parts infoPtr
  refine wpList_append_lies w hgd s x 94 ho base 101 i0 _ 1 8 Tryz.underlying94 hi hz0 hz1 hz2 rfl (by omega) v 0 [] hs hown ⟨vb, 0, none⟩ 1 1 [hP h0] hx rfl ?_ ?_ (by decide) (by unfold maxLen; omega) (by omega) hbase _ rfl ?_
  · intro j y hj
    match j, hj with
    | 0, hj => simp at hj; subst hj; simpa [Addr.add] using c0
  · intro u hu; simp at hu; subst hu; rfl
  · intro g c' w' h1 h2 h3 h4
    exact hh g c' w' (by unfold OwnP; simpa using h1) h2 (h3.imp_right (fun e => by omega))
set_option maxRecDepth 100000 in
set_option maxHeartbeats 4000000 in
theorem ins_end (w : World) (base : Nat) (a : Option Addr) (c : Nat) (h0 : Hdl) (vb : Nat) (hown : OwnP w base (.slice a 0 c) []) (hbase : base ≤ w.heap.size) (c0 : w.cell? ⟨vb, 0, none⟩ = some (hP h0)) :
    Calls Tryz.prog 122 #[.slice a 0 c, .int .i64 0, .slice (some ⟨vb, 0, none⟩) 1 1] w fun e w' => InsRes w base (.slice a 0 c) [h0] e w' := by
  have HO := hidP hown
  have C0 := hidP c0
  have hshape : (a = none ∧ c = 0) ∨ ∃ g, a = some ⟨g, 0, none⟩ := by
    obtain ⟨_, h1 | ⟨g, c', cur, e, _, _, hc, _⟩⟩ := hown
    · left
      obtain ⟨e1, e2⟩ := h1
      have := Value.slice.inj e1
      exact ⟨this.1, this.2.2⟩
    · right
      have := Value.slice.inj e
      exact ⟨g, this.1⟩
  clear hown c0
  rcases hshape with ⟨rfl, rfl⟩ | ⟨g, rfl⟩
  · go_enter Tryz.func122, Tryz.ntmps122
    go_wp2_with (at_builtin; refine wpList_append1P w rfl (.tmp 23) (.tmp 24) rfl base _ h0 vb rfl rfl HO.out C0.out hbase ?_; intro g c' w' h1 h2 h3)
    go_ret
    exact ⟨g, c', rfl, h1, h2, h3⟩
  · have g1 : (0 : Int) ≤ c := by omega
    go_enter Tryz.func122, Tryz.ntmps122
    go_wp2_with (at_builtin; refine wpList_append1P w rfl (.tmp 23) (.tmp 24) rfl base _ h0 vb rfl rfl HO.out C0.out hbase ?_; intro g c' w' h1 h2 h3)
    all_goals (go_ret; exact ⟨g, c', rfl, h1, h2, h3⟩)
set_option maxRecDepth 100000 in
set_option maxHeartbeats 8000000 in
theorem ins_shift (w : World) (base g c n : Nat) (cur : Array Value) (l : List Hdl) (h0 : Hdl) (vb : Nat) (vt : TypeId)
    (hg : w.heap[g]? = some (.cells cur 101 (0, 0))) (hbg : base ≤ g) (hcm : c ≤ maxLen) (hcs : cur.size = c) (hx : cur.toList.take n = l.map hP) (hln : l.length = n) (hl : n ≤ 1000) (hi : 0 < n) (hroom : n + 1 ≤ c) (hvg : vb ≠ g)
    (hvb : w.heap[vb]? = some (.cells #[hP h0] vt (0, 0))) :
    Calls Tryz.prog 122 #[.slice (some ⟨g, 0, none⟩) n c, .int .i64 0, .slice (some ⟨vb, 0, none⟩) 1 1] w fun e w' => InsRes w base (.slice (some ⟨g, 0, none⟩) n c) (h0 :: l) e w' := by
  unfold maxLen at hcm
  have hov : ∀ lb cb, (callFunc 166 #[.slice (some ⟨vb, 0, none⟩) 1 1, .slice (some ⟨g, 1, none⟩) lb cb]).run Tryz.prog w = .ok (.value (.bool false)) w := fun lb cb => by
    rw [run_callFunc_extern Tryz.func166 (by kernel_rfl) (by kernel_rfl) (by kernel_rfl) (e := Extern.SlicesOverlaps.overlaps #[94, 94] #[4]) (by kernel_rfl),
      Lib.run_overlaps_apart w 94 4 101 Tryz.underlying94 1 Tryz.sizeOf101 ⟨vb, 0, none⟩ ⟨g, 1, none⟩ 1 1 lb cb hvg vt 101 1 c (by simp [World.shape?, hvb]) (by simp [World.shape?, hg, hcs]) (by omega) (by simp [World.frozen?, hvb]) (by simp [World.frozen?, hvb])]
    rfl
  have hBl : (l.map hP).length = n := by simp [hln]
  have hcur : cur.toList = l.map hP ++ cur.toList.drop n := by rw [← hx, List.take_append_drop]
  have hTl : (cur.toList.drop n).length = c - n := by rw [List.length_drop, Array.length_toList, hcs]
  have hend := fun (W : World) (R : Array Value) (T : List Value) => @ownP_row W base g c R T (h0 :: l)
  have h1B := ptr_one l
  rw [List.map_cons, List.length_cons, hln] at hend
  generalize l.map hP = B at *
  generalize cur.toList.drop n = T at *
  obtain ⟨R1, hR1⟩ : ∃ R1 : List Value, R1 = cur.toList.take 1 ++ B ++ cur.toList.drop (1 + B.length) := ⟨_, rfl⟩
  obtain ⟨R2, hR2⟩ : ∃ R2 : List Value, R2 = R1.take 0 ++ [hP h0] ++ R1.drop 1 := ⟨_, rfl⟩
  have hR2e : R2 = hP h0 :: B ++ T.drop 1 := by
    rw [hR2, hR1, hcur]
    have h1 : ((B ++ T).take 1).length = 1 := by simp; omega
    have e1 : ∀ X : List Value, ((B ++ T).take 1 ++ B ++ X).drop 1 = B ++ X := fun X => by rw [List.append_assoc, List.drop_left' h1]
    have e2 : (B ++ T).drop (1 + B.length) = T.drop 1 := by rw [Nat.add_comm, List.drop_append]; simp
    rw [e1, e2]
    simp
  have hcl : cur.toList.length = c := by rw [Array.length_toList, hcs]
  have hR1l : R1.length = c := by
    rw [hR1]
    simp only [List.length_append, List.length_take, List.length_drop, hcl, hBl]
    omega
  have hR2l : R2.length = c := by
    rw [hR2e]
    simp only [List.cons_append, List.length_append, List.length_drop, List.length_cons, hBl, hTl]
    omega
  have HC1 : Hid (∀ W : World, W.heap = w.heap → ∀ ty dc sc, (Builtin.copy_ #[94, 94] ty #[.slice (some ⟨g, 1, none⟩) n dc, .slice (some ⟨g, 0, none⟩) (n + 1) sc]).run Tryz.prog W = .ok (goInt ((n : Nat) : Int)) (W.setRow g R1.toArray)) := fun W hW ty dc sc => by
    have := run_copy_row1 W ty g 1 n dc ⟨g, 0, none⟩ (n + 1) sc n cur 101 B (by rw [hW]; exact hg) (by simp only [Nat.min_def]; split <;> omega) hBl
      (fun j v hj => by
        rw [Addr.add_lit]
        simp only [World.cell?, hW, hg]
        rw [← Array.getElem?_toList, hcur, Nat.zero_add, List.getElem?_append_left (List.getElem?_eq_some_iff.1 hj).1]
        exact hj) (by rw [hBl, hcs]; omega) h1B
    rw [this, hR1]
  have HC2 : Hid (∀ W : World, W.heap = w.heap → ∀ ty dc, (Builtin.copy_ #[94, 94] ty #[.slice (some ⟨g, 0, none⟩) (n + 1) dc, .slice (some ⟨vb, 0, none⟩) 1 1]).run Tryz.prog (W.setRow g R1.toArray) = .ok (goInt 1) ((W.setRow g R1.toArray).setRow g R2.toArray)) := fun W hW ty dc => by
    have hgW : (W.setRow g R1.toArray).heap[g]? = some (.cells R1.toArray 101 (0, 0)) := setRow_heap W g cur _ 101 (0, 0) (by rw [hW]; exact hg)
    have hvW : (W.setRow g R1.toArray).heap[vb]? = some (.cells #[hP h0] vt (0, 0)) := by rw [setRow_other W g vb _ hvg, hW]; exact hvb
    have := run_copy_row1 (W.setRow g R1.toArray) ty g 0 (n + 1) dc ⟨vb, 0, none⟩ 1 1 1 R1.toArray 101 [hP h0] hgW (by simp only [Nat.min_def]; split <;> omega) rfl
      (fun j v hj => by
        rw [Addr.add_lit]
        simp only [World.cell?, hvW]
        match j, hj with
        | 0, hj => simpa using hj) (by simp [hR1l]; omega) (by intro v hv; simp at hv; subst hv; rfl)
    rw [this, hR2]
    simp
  have HEND : Hid (∀ W : World, W.heap = w.heap → OwnP ((W.setRow g R1.toArray).setRow g R2.toArray) base (.slice (some ⟨g, 0, none⟩) (n + 1) c) (h0 :: l)) := fun W hW => by
    refine hend _ R2.toArray (T.drop 1) ?_ hbg hroom (by unfold maxLen; exact hcm) (by simpa using hR2l) (by simpa using hR2e)
    exact setRow_heap _ g R1.toArray _ 101 (0, 0) (setRow_heap W g cur _ 101 (0, 0) (by rw [hW]; exact hg))
  have HGR : Hid (∀ W : World, W = w.drew → w.grownBy ((W.setRow g R1.toArray).setRow g R2.toArray) (some g)) := fun W hW => by
    subst hW
    refine ⟨rfl, rfl, rfl, by simp, fun k hk hn => ?_⟩
    rw [setRow_other _ g k _ (fun e => hn (by rw [e])), setRow_other _ g k _ (fun e => hn (by rw [e]))]
    rfl
  clear hR1 hR2 hR2e hcur hend h1B hTl hBl hR1l hR2l hcl hx hcs hg hvb
  have HLN := hidP hln
  clear hln
  have g1 : ¬ ((0 : Int) = (n : Int)) := by omega
  have g2 : ¬ ((c : Int) < (n : Int) + 1) := by omega
  have g4 : (0 : Int) ≤ (n : Int) := by omega
  have g5 : (n : Int) + 1 ≤ c := by omega
  have g6 : (1 : Int) ≤ (n : Int) + 1 := by omega
  have g7 : (0 : Int) ≤ (n : Int) + 1 := by omega
  have g8 : ¬ (c = 1) := by omega
  have g9 : ¬ (c = 0) := by omega
  have hw1 : IntKind.i64.wrap 1 = 1 := by decide
  go_enter Tryz.func122, Tryz.ntmps122
  go_wp2_with (simp only [hov])
  refine wp_region_still_tail 8 ptr_mixed (by kernel_rfl) ?_
  simp only [List.take_succ_cons, List.take_zero, List.drop_succ_cons, List.drop_zero]
  repeat still_step
  refine wpStill_nil ?_
  show wpList _ _ _ _ _ _
  refine wpList_copy_runP _ rfl (.tmp 73) (.tmp 76) 94 94 rfl (.slice (some ⟨g, 1, none⟩) n (c - 1)) (.slice (some ⟨g, 0, none⟩) (n + 1) c) (by simp [Act.eval]) (by simp [Act.eval]) (HC1.out w.drew rfl _ _ _) ?_
  have hcp2 := HC2.out w.drew rfl
  go_wp2_with fail
  go_ret
  exact ⟨g, c, by rw [List.length_cons, HLN.out]; rfl, by rw [List.length_cons, HLN.out]; exact HEND.out w.drew rfl, HGR.out w.drew rfl, .inl rfl⟩
set_option maxRecDepth 100000 in
set_option maxHeartbeats 8000000 in
theorem ins_grow (w : World) (base g c n : Nat) (cur : Array Value) (l : List Hdl) (h0 : Hdl) (vb : Nat) (vt : TypeId)
    (hg : w.heap[g]? = some (.cells cur 101 (0, 0))) (hbase : base ≤ w.heap.size) (hx : cur.toList.take n = l.map hP) (hln : l.length = n) (hl : n ≤ 1000) (hi : 0 < n) (hnc : n ≤ c) (hroom : c < n + 1)
    (hvb : w.heap[vb]? = some (.cells #[hP h0] vt (0, 0))) :
    Calls Tryz.prog 122 #[.slice (some ⟨g, 0, none⟩) n c, .int .i64 0, .slice (some ⟨vb, 0, none⟩) 1 1] w fun e w' => InsRes w base (.slice (some ⟨g, 0, none⟩) n c) (h0 :: l) e w' := by
  obtain ⟨i0, hi0, hz0, hzs, hzb⟩ := info_parts infoPtr
  have hgw : g < w.heap.size := (Array.getElem?_eq_some_iff.1 hg).1
  have hvw : vb < w.heap.size := (Array.getElem?_eq_some_iff.1 hvb).1
  have hBl : (l.map hP).length = n := by simp [hln]
  have hcur : cur.toList = l.map hP ++ cur.toList.drop n := by rw [← hx, List.take_append_drop]
  have hend := fun (W : World) (g' c' : Nat) (R : Array Value) (T : List Value) => @ownP_row W base g' c' R T (h0 :: l)
  have h1B := ptr_one l
  rw [List.map_cons, List.length_cons, hln] at hend
  generalize l.map hP = B at *
  generalize cur.toList.drop n = T at *
  have hcell : ∀ j v, B[j]? = some v → w.cell? ⟨g, j, none⟩ = some v := fun j v hj => by
    simp only [World.cell?, hg]
    rw [← Array.getElem?_toList, hcur, List.getElem?_append_left (List.getElem?_eq_some_iff.1 hj).1]
    exact hj
  have hold : (Builtin.firstCells i0.size 0 (.slice (some ⟨g, 0, none⟩) 0 c)).run Tryz.prog w.drew = .ok #[] w.drew := by
    rw [hzs]
    exact run_firstCells_some w.drew 1 0 ⟨g, 0, none⟩ 0 c [] (by simp) (fun j v hj => by simp at hj)
  obtain ⟨G, hG⟩ : ∃ G, G = grownCap w (n + 1) c 101 := ⟨_, rfl⟩
  obtain ⟨ROW, hROW⟩ : ∃ ROW : Array Value, ROW = #[] ++ Builtin.zeroCells (Value.pointer none).cells (n + 1) ++ Builtin.zeroCells (Value.pointer none).cells (G - (n + 1)) := ⟨_, rfl⟩
  have hrz : ∀ ty, (Builtin.append_ #[94, 3] ty #[.slice (some ⟨g, 0, none⟩) 0 c, .int .i64 ((n : Int) + 1)]).run Tryz.prog w = .ok (.slice (some ⟨w.heap.size, 0, none⟩) (n + 1) G) (w.drew.alloc (.cells ROW 101)) := fun ty => by
    have hkk : (n : Int) + 1 = ((n + 1 : Nat) : Int) := by omega
    have h := Lib.run_append_grow_zeros w 94 3 ty 101 i0 _ .i64 .i64 Tryz.underlying94 Tryz.underlying3 hi0 hz0 (some ⟨g, 0, none⟩) 0 c [] hold (n + 1) (by omega) (by omega) (by omega) (by omega) (by rw [hzb]; omega) (by rw [hzb, Nat.zero_add]; exact growslice_fits hroom (by omega))
    rw [Nat.zero_add] at h
    rw [hkk, hROW, hG]
    exact h
  have hGn : n + 1 ≤ G := by rw [hG]; exact grownCap_ge w _ _ _
  have hGm : G ≤ maxLen := by rw [hG]; exact grownCap_le_maxLen w _ _ _ (by unfold maxLen; omega)
  have hzl : ∀ k, (Builtin.zeroCells (Value.pointer none).cells k).toList.length = k := fun k => by
    rw [Array.length_toList, size_zeroCells]; show k * 1 = k; omega
  have hRL : ROW.toList = (Builtin.zeroCells (Value.pointer none).cells (n + 1)).toList ++ (Builtin.zeroCells (Value.pointer none).cells (G - (n + 1))).toList := by
    rw [hROW]; simp
  have hz1 := hzl (n + 1)
  have hz2 := hzl (G - (n + 1))
  generalize (Builtin.zeroCells (Value.pointer none).cells (n + 1)).toList = Z at *
  generalize (Builtin.zeroCells (Value.pointer none).cells (G - (n + 1))).toList = T2 at *
  have hRs : ROW.size = G := by
    rw [← Array.length_toList, hRL]
    simp only [List.length_append, hz1, hz2]
    omega
  obtain ⟨R1, hR1⟩ : ∃ R1 : List Value, R1 = ROW.toList.take 0 ++ [hP h0] ++ ROW.toList.drop (0 + 1) := ⟨_, rfl⟩
  obtain ⟨R2, hR2⟩ : ∃ R2 : List Value, R2 = R1.take 1 ++ B ++ R1.drop (1 + B.length) := ⟨_, rfl⟩
  have hR2e : R2 = hP h0 :: B ++ T2 := by
    have e0 : R1 = hP h0 :: (Z ++ T2).drop 1 := by rw [hR1, hRL]; simp
    have e1 : (Z ++ T2).drop (B.length + 1) = T2 := by
      have : B.length + 1 = Z.length := by omega
      rw [this, List.drop_left]
    rw [hR2, e0, Nat.add_comm 1 B.length]
    simp only [List.take_succ_cons, List.take_zero, List.drop_succ_cons, List.drop_drop, List.cons_append, List.nil_append]
    rw [Nat.add_comm 1 B.length, e1]
  have hR1l : R1.length = G := by
    rw [hR1]
    simp only [List.length_append, List.length_take, List.length_drop, List.length_cons, List.length_nil, Array.length_toList, hRs]
    omega
  have hR2l : R2.length = G := by
    rw [hR2e]
    simp only [List.cons_append, List.length_append, List.length_cons, hBl, hz2]
    omega
  have hc1 : ∀ ty dc, (Builtin.copy_ #[94, 94] ty #[.slice (some ⟨w.heap.size, 0, none⟩) (n + 1) dc, .slice (some ⟨vb, 0, none⟩) 1 1]).run Tryz.prog (w.drew.alloc (.cells ROW 101)) = .ok (goInt 1) ((w.drew.alloc (.cells ROW 101)).setRow w.heap.size R1.toArray) := fun ty dc => by
    have hvW : (w.drew.alloc (.cells ROW 101)).heap[vb]? = some (.cells #[hP h0] vt (0, 0)) := by rw [newRowP_old w _ _ vb hvw]; exact hvb
    have := run_copy_row1 (w.drew.alloc (.cells ROW 101)) ty w.heap.size 0 (n + 1) dc ⟨vb, 0, none⟩ 1 1 1 ROW 101 [hP h0] (newRowP_at w ROW _) (by simp only [Nat.min_def]; split <;> omega) rfl
      (fun j v hj => by
        rw [Addr.add_lit]
        simp only [World.cell?, hvW]
        match j, hj with
        | 0, hj => simpa using hj) (by rw [hRs]; simp; omega) (by intro v hv; simp at hv; subst hv; rfl)
    rw [this, hR1]
    simp
  obtain ⟨W1, hW1⟩ : ∃ W1, W1 = (w.drew.alloc (.cells ROW 101)).setRow w.heap.size R1.toArray := ⟨_, rfl⟩
  have hW1N : W1.heap[w.heap.size]? = some (.cells R1.toArray 101 (0, 0)) := by rw [hW1]; exact setRow_heap _ _ ROW _ 101 (0, 0) (newRowP_at w ROW _)
  have hW1g : W1.heap[g]? = w.heap[g]? := by rw [hW1, setRow_other _ _ g _ (by omega), newRowP_old w _ _ g hgw]
  have hW1b : Below w.heap.size w W1 := by
    rw [hW1]
    have h1 : Below w.heap.size w (w.drew.alloc (.cells ROW 101)) := ((Below.refl _ _).drew).alloc (Nat.le_refl _) _
    exact h1.trans (below_setRowP _ _ (Nat.le_refl _) h1.size)
  rw [← hW1] at hc1
  have HC2 : Hid (∀ ty dc sc, (Builtin.copy_ #[94, 94] ty #[.slice (some ⟨w.heap.size, 1, none⟩) n dc, .slice (some ⟨g, 0, none⟩) n sc]).run Tryz.prog W1.drew = .ok (goInt ((n : Nat) : Int)) (W1.drew.setRow w.heap.size R2.toArray)) := fun ty dc sc => by
    have := run_copy_row1 W1.drew ty w.heap.size 1 n dc ⟨g, 0, none⟩ n sc n R1.toArray 101 B hW1N (by simp only [Nat.min_def]; split <;> omega) hBl
      (fun j v hj => by
        rw [Addr.add_lit]
        have e : W1.drew.cell? ⟨g, 0 + j, none⟩ = w.cell? ⟨g, 0 + j, none⟩ := World.cell?_of_block hW1g
        rw [e, Nat.zero_add]
        exact hcell _ v hj) (by simp only [List.size_toArray, hBl, hR1l]; omega) h1B
    rw [this, hR2]
  have HEND : Hid (OwnP (W1.drew.setRow w.heap.size R2.toArray) base (.slice (some ⟨w.heap.size, 0, none⟩) (n + 1) G) (h0 :: l)) :=
    hend _ w.heap.size G R2.toArray T2 (setRow_heap _ _ R1.toArray _ 101 (0, 0) hW1N) hbase hGn hGm (by simpa using hR2l) (by simpa using hR2e)
  have HBEL : Hid (Below w.heap.size w (W1.drew.setRow w.heap.size R2.toArray)) := hW1b.drew.trans (below_setRowP _ _ (Nat.le_refl _) hW1b.drew.size)
  have HGR : Hid (w.grownBy (W1.drew.setRow w.heap.size R2.toArray) (some g)) := ⟨HBEL.out.os, HBEL.out.tape, HBEL.out.output, HBEL.out.size, fun k hk _ => HBEL.out.block k hk⟩
  unfold maxLen at hGm
  have HW1 : Hid (W1 = (w.drew.alloc (.cells ROW 101)).setRow w.heap.size R1.toArray) := hW1
  clear hR1 hR2 hR2e hcur hend h1B hBl hR1l hR2l hx hg hvb hcell hold hROW hG hzl hRL hz1 hz2 hRs hW1 hW1N hW1g hW1b HBEL
  have HLN := hidP hln
  clear hln
  have g1 : ¬ ((0 : Int) = (n : Int)) := by omega
  have g2 : (c : Int) < (n : Int) + 1 := by omega
  have g4 : (0 : Int) ≤ (n : Int) := by omega
  have g5 : (n : Int) ≤ c := by omega
  have g6 : (1 : Int) ≤ (n : Int) + 1 := by omega
  have g7 : (0 : Int) ≤ (n : Int) + 1 := by omega
  have g8 : ¬ (G = 1) := by omega
  have g9 : ¬ (G = 0) := by omega
  have g10 : ¬ (c = 0) := by omega
  have g11 : (0 : Int) ≤ (c : Int) := by omega
  have hw1 : IntKind.i64.wrap 1 = 1 := by decide
  have hc1b : ∀ ty dc, (Builtin.copy_ #[94, 94] ty #[.slice (some ⟨w.heap.size, 0, none⟩) (n + 1) dc, .slice (some ⟨vb, 0, none⟩) 1 1]).run Tryz.prog (w.alloc (.cells ROW 101)).drew = .ok (goInt 1) W1 := fun ty dc => hc1 ty dc
  go_enter Tryz.func122, Tryz.ntmps122
  go_wp2_with (at_builtin; refine Lib.wpList_append_run _ rfl (.tmp 34) (.tmp 39) _ _ rfl _ _ rfl rfl _ _ (hrz _) ?_)
  refine wp_region_still_tail 8 ptr_mixed (by kernel_rfl) ?_
  simp only [List.take_succ_cons, List.take_zero, List.drop_succ_cons, List.drop_zero]
  repeat still_step
  refine wpStill_nil ?_
  show wpList _ _ _ _ _ _
  refine wpList_copy_runP _ rfl (.tmp 50) (.tmp 53) 94 94 rfl (.slice (some ⟨w.heap.size, 1, none⟩) n (G - 1)) (.slice (some ⟨g, 0, none⟩) n c) (by simp [Act.eval]) (by simp [Act.eval]) (HC2.out _ _ _) ?_
  go_wp2_with fail
  go_ret
  exact ⟨w.heap.size, G, by rw [List.length_cons, HLN.out]; rfl, by rw [List.length_cons, HLN.out]; exact HEND.out, HGR.out, .inr (Nat.le_refl _)⟩
/-- One more, ahead of all others. -/
theorem ins_any (w : World) (base : Nat) (v : Value) (l : List Hdl) (h0 : Hdl) (vb : Nat) (vt : TypeId) (ho : OwnP w base v l) (hl : l.length ≤ 1000) (hbase : base ≤ w.heap.size) (hvn : v.ownBlock ≠ some vb) (hvb : w.heap[vb]? = some (.cells #[hP h0] vt (0, 0))) :
    Calls Tryz.prog 122 #[v, .int .i64 0, .slice (some ⟨vb, 0, none⟩) 1 1] w fun e w' => InsRes w base v (h0 :: l) e w' := by
  have hc0 : w.cell? ⟨vb, 0, none⟩ = some (hP h0) := by simp [World.cell?, hvb]
  by_cases h : l = []
  · subst h
    obtain ⟨va, vc, rfl, _⟩ := ho.form
    exact ins_end w base va vc h0 vb ho hbase hc0
  · have hpos : 0 < l.length := by cases l with | nil => exact absurd rfl h | cons _ _ => simp
    obtain ⟨hx0, ⟨e1, e2⟩ | ⟨g, c, R, rfl, hbg, hg, hc, hcm, hs, hx⟩⟩ := ho
    · omega
    · rw [Nat.mul_one] at hs hx
      have hne : vb ≠ g := fun e => hvn (by rw [e]; rfl)
      by_cases hr : l.length + 1 ≤ c
      · exact ins_shift w base g c l.length R l h0 vb vt hg hbg hcm hs (by simpa using hx) rfl hl hpos hr hne hvb
      · exact ins_grow w base g c l.length R l h0 vb vt hg hbase (by simpa using hx) rfl hl hpos hc (by omega) hvb
end Go.Proofs.YtdooopkpnanekaaGreatDoor
/-
  Entries of one's own, by their cells: written, one at a time.
-/
namespace Go.Proofs.YtdooopkpnanekaaGreatDoor
open Go.ChangeShapes Go.WideShapes Go.ChangeAt Go.RowKit Go.Sort
/-- What lies outside of the blocks F is as it was. -/
structure Out (F : List Nat) (w w' : World) : Prop where
  size : w.heap.size ≤ w'.heap.size
  cell : ∀ b o, b < w.heap.size → b ∉ F → w'.cell? ⟨b, o, none⟩ = w.cell? ⟨b, o, none⟩
  frozen : ∀ b o, b < w.heap.size → b ∉ F → w'.frozen? ⟨b, o, none⟩ = w.frozen? ⟨b, o, none⟩
theorem Out.refl (F : List Nat) (w : World) : Out F w w := ⟨Nat.le_refl _, fun _ _ _ _ => rfl, fun _ _ _ _ => rfl⟩
theorem Out.trans {F : List Nat} {w w1 w2 : World} (h : Out F w w1) (k : Out F w1 w2) : Out F w w2 :=
  ⟨Nat.le_trans h.size k.size, fun b o hb hn => by rw [k.cell b o (Nat.lt_of_lt_of_le hb h.size) hn, h.cell b o hb hn], fun b o hb hn => by rw [k.frozen b o (Nat.lt_of_lt_of_le hb h.size) hn, h.frozen b o hb hn]⟩
theorem Out.mono {F G : List Nat} {w w' : World} (h : Out F w w') (hs : ∀ b ∈ F, b ∈ G) : Out G w w' :=
  ⟨h.size, fun b o hb hn => h.cell b o hb (fun e => hn (hs b e)), fun b o hb hn => h.frozen b o hb (fun e => hn (hs b e))⟩
theorem Out.below {F : List Nat} {w w' : World} (h : Below w.heap.size w w') : Out F w w' :=
  ⟨h.size, fun b o hb _ => h.cell (p := ⟨b, o, none⟩) hb, fun b o hb _ => h.frozen (p := ⟨b, o, none⟩) hb⟩
theorem Out.hav {v : Value} {w w' : World} (h : HAV v w w') : Out v.ownBlock.toList w w' :=
  ⟨h.size, fun b o hb hn => h.cell b o hb (fun e => hn (by simp [e])), fun b o hb hn => h.frozen b o hb (fun e => hn (by simp [e]))⟩
theorem Out.set (w : World) (g o : Nat) (u : Value) : Out [g] w (w.setCell ⟨g, o, none⟩ u) :=
  ⟨by simp, fun b o' _ hn => World.cell?_setCell_other _ _ _ _ (by intro e; have := congrArg Addr.block e; simp at this; simp at hn; omega), fun b o' _ _ => World.frozen?_setCell _ _ _ _⟩
theorem Out.above {F : List Nat} {hi : Nat} {w w' : World} (h : Out F w w') (hF : ∀ b ∈ F, b < hi) : Above hi w w' :=
  ⟨h.size, fun b o h1 h2 => h.cell b o h2 (fun e => by have := hF b e; omega), fun b o h1 h2 => h.frozen b o h2 (fun e => by have := hF b e; omega)⟩
/-- The blocks of a list of entries. -/
def fp (v : Value) (l : List (Ent × EntR)) : List Nat := v.ownBlock.toList ++ foot l
/-- v holds the entries l; all of it is its holder's own, from block base on. -/
structure EntsLV (w : World) (base : Nat) (v : Value) (l : List (Ent × EntR)) : Prop where
  form : (v = .slice none 0 0 ∧ l = []) ∨ ∃ g cap, v = .slice (some ⟨g, 0, none⟩) l.length cap ∧ l.length ≤ cap ∧ base ≤ g ∧ g < w.heap.size ∧ (∀ (i : Nat) q, l[i]? = some q → ∀ j, j < 13 → w.cell? ⟨g, i * 13 + j, none⟩ = (entW q.1 q.2)[j]?) ∧ ∀ o, w.frozen? ⟨g, o, none⟩ = false
  rows : ∀ q ∈ l, EntLV w base q.1 q.2
  nd : (fp v l).Nodup
theorem EntsO.lv {w : World} {base : Nat} {v : Value} {l : List (Ent × EntR)} (h : EntsO w base v l) : EntsLV w base v l := by
  refine ⟨?_, h.rows, h.nd⟩
  have h0 := h.own
  obtain ⟨_, h1 | ⟨g, c, cur, rfl, hg, hh, hc, _⟩⟩ := h.own
  · exact .inl ⟨h1.1, List.eq_nil_of_length_eq_zero h1.2⟩
  · refine .inr ⟨g, c, rfl, hc, hg, (Array.getElem?_eq_some_iff.1 hh).1, fun i q hq j hj => ?_, fun o => by simp [World.frozen?, hh]⟩
    have hi := (List.getElem?_eq_some_iff.1 hq).1
    rw [World.ownsRow.cellAt h0 (i * 13 + j) (by omega), entsW_at l i q hq j hj]
theorem EntsLV.lt {w : World} {base : Nat} {v : Value} {l : List (Ent × EntR)} (h : EntsLV w base v l) {b : Nat} (hb : b ∈ fp v l) : b < w.heap.size := by
  rcases List.mem_append.1 hb with hb | hb
  · rcases h.form with ⟨rfl, _⟩ | ⟨g, c, rfl, _, _, hg, _⟩
    · simp [Value.ownBlock] at hb
    · simp [Value.ownBlock] at hb; omega
  · obtain ⟨q, hq, hb⟩ := List.mem_flatMap.1 hb
    exact (h.rows q hq).lts.mem hb
theorem EntsLV.ge {w : World} {base : Nat} {v : Value} {l : List (Ent × EntR)} (h : EntsLV w base v l) {b : Nat} (hb : b ∈ fp v l) : base ≤ b := by
  rcases List.mem_append.1 hb with hb | hb
  · rcases h.form with ⟨rfl, _⟩ | ⟨g, c, rfl, _, hg, _⟩
    · simp [Value.ownBlock] at hb
    · simp [Value.ownBlock] at hb; omega
  · obtain ⟨q, hq, hb⟩ := List.mem_flatMap.1 hb
    exact (h.rows q hq).ge hb
theorem EntsLV.lower {w : World} {base b0 : Nat} {v : Value} {l : List (Ent × EntR)} (h : EntsLV w base v l) (hb : b0 ≤ base) : EntsLV w b0 v l := by
  refine ⟨?_, fun q hq => (h.rows q hq).lower hb, h.nd⟩
  rcases h.form with h1 | ⟨g, c, e, h1, h2, h3⟩
  · exact .inl h1
  · exact .inr ⟨g, c, e, h1, by omega, h3⟩
theorem EntsLV.out {w w' : World} {F : List Nat} {base : Nat} {v : Value} {l : List (Ent × EntR)} (h : EntsLV w base v l) (o : Out F w w') (hd : ∀ b ∈ fp v l, b ∉ F) : EntsLV w' base v l := by
  refine ⟨?_, fun q hq => (h.rows q hq).far o.size fun b hb hlt o' => ?_, h.nd⟩
  · rcases h.form with h1 | ⟨g, c, e, h1, h2, h3, h4, h5⟩
    · exact .inl h1
    · have hn : g ∉ F := hd g (by simp [fp, e, Value.ownBlock])
      exact .inr ⟨g, c, e, h1, h2, Nat.lt_of_lt_of_le h3 o.size, fun i q hq j hj => by rw [o.cell g _ h3 hn]; exact h4 i q hq j hj, fun o' => by rw [o.frozen g o' h3 hn]; exact h5 o'⟩
  · have hn : b ∉ F := hd b (List.mem_append.2 (.inr (List.mem_flatMap.2 ⟨q, hq, hb⟩)))
    exact ⟨o.cell b o' hlt hn, o.frozen b o' hlt hn⟩
theorem EntsLV.below {w w' : World} {base : Nat} {v : Value} {l : List (Ent × EntR)} (h : EntsLV w base v l) (hb : Below w.heap.size w w') : EntsLV w' base v l := h.out (F := []) (.below hb) (by simp)
theorem EntsLV.in {w : World} {base : Nat} {v : Value} {l : List (Ent × EntR)} (h : EntsLV w base v l) : ∃ a c, v = .slice a l.length c ∧ l.length ≤ c ∧ EntsIn w a l := by
  rcases h.form with ⟨rfl, rfl⟩ | ⟨g, c, e, h1, h2, h3, h4, h5⟩
  · exact ⟨none, 0, rfl, Nat.le_refl _, .inl rfl⟩
  · exact ⟨_, c, e, h1, .inr ⟨g, 0, rfl, fun i q hq => ⟨fun j hj => by rw [Nat.zero_add]; exact h4 i q hq j hj, (h.rows q (List.mem_of_getElem? hq)).in⟩⟩⟩
theorem EntsLV.at {w : World} {base g n cap : Nat} {l : List (Ent × EntR)} (h : EntsLV w base (.slice (some ⟨g, 0, none⟩) n cap) l) : n = l.length ∧ l.length ≤ cap ∧ base ≤ g ∧ g < w.heap.size ∧ (∀ (i : Nat) q, l[i]? = some q → ∀ j, j < 13 → w.cell? ⟨g, i * 13 + j, none⟩ = (entW q.1 q.2)[j]?) ∧ ∀ o, w.frozen? ⟨g, o, none⟩ = false := by
  rcases h.form with ⟨e, _⟩ | ⟨g', c, e, h1, h2, h3, h4, h5⟩
  · simp at e
  · simp only [Value.slice.injEq, Option.some.injEq, Addr.mk.injEq] at e
    obtain ⟨⟨rfl, _⟩, rfl, rfl⟩ := e
    exact ⟨rfl, h1, h2, h3, h4, h5⟩
theorem foot_mid (A B : List (Ent × EntR)) (x : Ent) (r : EntR) : foot (A ++ (x, r) :: B) = foot A ++ (rblk r ++ foot B) := by simp [foot]
theorem mid_ne {α : Type} (A B : List α) (y z : α) (i : Nat) (h : i ≠ A.length) : (A ++ y :: B)[i]? = (A ++ z :: B)[i]? := by
  by_cases hl : i < A.length
  · rw [List.getElem?_append_left hl, List.getElem?_append_left hl]
  · rw [List.getElem?_append_right (by omega), List.getElem?_append_right (by omega)]
    obtain ⟨d, hd⟩ : ∃ d, i - A.length = d + 1 := ⟨i - A.length - 1, by omega⟩
    rw [hd]; rfl
theorem mid_eq {α : Type} (A B : List α) (y : α) : (A ++ y :: B)[A.length]? = some y := by simp
/-- One entry is another one now. -/
theorem EntsLV.mid {w w' : World} {F : List Nat} {base g n cap : Nat} {A B : List (Ent × EntR)} {x : Ent} {r : EntR} (h : EntsLV w base (.slice (some ⟨g, 0, none⟩) n cap) (A ++ (x, r) :: B)) (o : Out F w w') (hF : ∀ b ∈ F, b = g ∨ b ∈ rblk r) (x' : Ent) (hx : EntLV w' base x' r)
    (hc : ∀ (i : Nat) q, (A ++ (x', r) :: B)[i]? = some q → ∀ j, j < 13 → w'.cell? ⟨g, i * 13 + j, none⟩ = (entW q.1 q.2)[j]?) (hfr : ∀ o, w'.frozen? ⟨g, o, none⟩ = false) : EntsLV w' base (.slice (some ⟨g, 0, none⟩) n cap) (A ++ (x', r) :: B) := by
  obtain ⟨rfl, h1, h2, h3, h4, h5⟩ := h.at
  have nd := h.nd
  unfold fp at nd
  rw [foot_mid] at nd
  simp only [Value.ownBlock, Option.toList_some, List.singleton_append, List.nodup_cons, List.nodup_append, List.mem_append, not_or] at nd
  obtain ⟨⟨n1, n2, n3⟩, _, ⟨_, _, n6⟩, n7⟩ := nd
  refine ⟨.inr ⟨g, cap, by simp, by simpa using h1, h2, Nat.lt_of_lt_of_le h3 o.size, hc, hfr⟩, fun q hq => ?_, by have := h.nd; unfold fp at this ⊢; rw [foot_mid] at this ⊢; exact this⟩
  have far : ∀ q, q ∈ A ∨ q ∈ B → EntLV w' base q.1 q.2 := fun q hq => by
    refine (h.rows q (by simp; rcases hq with hq | hq <;> simp [hq])).far o.size fun b hb hlt o' => ?_
    have hn : b ∉ F := fun e => by
      rcases hq with hq | hq
      · have hm : b ∈ foot A := List.mem_flatMap.2 ⟨q, hq, hb⟩
        rcases hF b e with rfl | e2
        · exact n1 hm
        · exact n7 b hm b (.inl e2) rfl
      · have hm : b ∈ foot B := List.mem_flatMap.2 ⟨q, hq, hb⟩
        rcases hF b e with rfl | e2
        · exact n3 hm
        · exact n6 b e2 b hm rfl
    exact ⟨o.cell b o' hlt hn, o.frozen b o' hlt hn⟩
  simp only [List.mem_append, List.mem_cons] at hq
  rcases hq with hq | rfl | hq
  · exact far q (.inl hq)
  · exact hx
  · exact far q (.inr hq)
theorem rblk_off {w : World} {base g n cap : Nat} {A B : List (Ent × EntR)} {x : Ent} {r : EntR} (h : EntsLV w base (.slice (some ⟨g, 0, none⟩) n cap) (A ++ (x, r) :: B)) : g ∉ rblk r := by
  have nd := h.nd
  unfold fp at nd
  rw [foot_mid] at nd
  simp only [Value.ownBlock, Option.toList_some, List.singleton_append, List.nodup_cons, List.nodup_append, List.mem_append, not_or] at nd
  exact nd.1.2.1
/-- A cell of an entry is written. -/
theorem EntsLV.set {w : World} {base g n cap k : Nat} {A B : List (Ent × EntR)} {x : Ent} {r : EntR} (h : EntsLV w base (.slice (some ⟨g, 0, none⟩) n cap) (A ++ (x, r) :: B)) (hk : A.length = k) (j : Nat) (hj : j < 13) (u : Value) (x' : Ent) (e : entW x' r = (entW x r).set j u) (eh : x'.hs = x.hs) (eb : x'.bl = x.bl) (et : x'.ts = x.ts) : EntsLV (w.setCell ⟨g, k * 13 + j, none⟩ u) base (.slice (some ⟨g, 0, none⟩) n cap) (A ++ (x', r) :: B) := by
  subst hk
  obtain ⟨hn, h1, h2, h3, h4, h5⟩ := h.at
  have hx := h.rows (x, r) (by simp)
  have hg := rblk_off h
  refine h.mid (Out.set w g _ u) (fun b hb => .inl (by simpa using hb)) x' ?_ (fun i q hq j' hj' => ?_) (fun o => by rw [World.frozen?_setCell]; exact h5 o)
  · have := hx.far (w' := w.setCell ⟨g, A.length * 13 + j, none⟩ u) (by simp) fun b hb hlt o' => ⟨(Out.set w g _ u).cell b o' hlt (by simp; rintro rfl; exact hg hb), World.frozen?_setCell _ _ _ _⟩
    obtain ⟨a1, a2, a3, a4, a5, a6, a7, a8, a9, a10, a11, a12⟩ := this
    simp only at a1 a2 a3 a4 a5 a6 a7 a8 a9 a10 a11 a12
    rw [← eh] at a1 a4 a7 a8 a10
    rw [← eb] at a2 a5 a7 a9 a11
    rw [← et] at a3 a6 a8 a9 a12
    exact ⟨a1, a2, a3, a4, a5, a6, a7, a8, a9, a10, a11, a12⟩
  · by_cases hi : i = A.length
    · subst hi
      rw [mid_eq] at hq
      obtain rfl := Option.some.inj hq
      have old := h4 A.length (x, r) (mid_eq _ _ _)
      by_cases hjj : j' = j
      · subst hjj
        have c := old j' hj
        rw [World.cell?_setCell_same _ _ _ (c.trans (List.getElem?_eq_getElem (by rw [entW_len]; omega))), e, List.getElem?_set_self (by rw [entW_len]; omega)]
      · rw [World.cell?_setCell_other _ _ _ _ (by intro e2; have := congrArg Addr.off e2; simp at this; omega), old j' hj', e, List.getElem?_set_ne (by omega)]
    · rw [World.cell?_setCell_other _ _ _ _ (by intro e2; have := congrArg Addr.off e2; simp at this; omega)]
      exact h4 i q (by rw [mid_ne A B (x, r) (x', r) i hi]; exact hq) j' hj'
/-- The lists of an entry are written. -/
theorem EntsLV.keepG {w w' : World} {u : Value} {base g n cap : Nat} {A B : List (Ent × EntR)} {x x' : Ent} {r : EntR} (h : EntsLV w base (.slice (some ⟨g, 0, none⟩) n cap) (A ++ (x, r) :: B)) (o : HAV u w w') (hu : ∀ b ∈ u.ownBlock.toList, b ∈ rblk r) (e : entW x' r = entW x r) (hx : EntLV w' base x' r) : EntsLV w' base (.slice (some ⟨g, 0, none⟩) n cap) (A ++ (x', r) :: B) := by
  obtain ⟨hn, h1, h2, h3, h4, h5⟩ := h.at
  have hg := rblk_off h
  have hgu : g ∉ u.ownBlock.toList := fun hm => hg (hu g hm)
  refine h.mid (Out.hav o) (fun b hb => .inr (hu b hb)) x' hx (fun i q hq j hj => ?_) (fun o' => by rw [(Out.hav o).frozen g o' h3 hgu]; exact h5 o')
  rw [(Out.hav o).cell g _ h3 hgu]
  by_cases hi : i = A.length
  · subst hi
    rw [mid_eq] at hq
    obtain rfl := Option.some.inj hq
    rw [h4 A.length (x, r) (mid_eq _ _ _) j hj, e]
  · exact h4 i q (by rw [mid_ne A B (x, r) (x', r) i hi]; exact hq) j hj
theorem own_rblk1 (r : EntR) (n : Nat) : ∀ b ∈ (Value.slice r.ha n r.hc).ownBlock.toList, b ∈ rblk r := fun b hb => by
  obtain ⟨ha, hc, ba, bc, ta, tc⟩ := r
  cases ha <;> simp [Value.ownBlock, rblk] at hb ⊢; exact .inl hb
theorem own_rblk2 (r : EntR) (n : Nat) : ∀ b ∈ (Value.slice r.ba n r.bc).ownBlock.toList, b ∈ rblk r := fun b hb => by
  obtain ⟨ha, hc, ba, bc, ta, tc⟩ := r
  cases ba <;> simp [Value.ownBlock, rblk] at hb ⊢; exact .inr (.inl hb)
theorem own_rblk3 (r : EntR) (n : Nat) : ∀ b ∈ (Value.slice r.ta n r.tc).ownBlock.toList, b ∈ rblk r := fun b hb => by
  obtain ⟨ha, hc, ba, bc, ta, tc⟩ := r
  cases ta <;> simp [Value.ownBlock, rblk] at hb ⊢; exact .inr (.inr hb)
theorem ne_sw {u v : Value} (h : ∀ g, u.ownBlock = some g → v.ownBlock ≠ some g) : ∀ g, v.ownBlock = some g → u.ownBlock ≠ some g := fun g h1 h2 => h g h2 h1
theorem EntsLV.hs {w w' : World} {base g n cap : Nat} {A B : List (Ent × EntR)} {x : Ent} {r : EntR} (h : EntsLV w base (.slice (some ⟨g, 0, none⟩) n cap) (A ++ (x, r) :: B)) (hs' : List Hdr) (hl : x.hs.length = hs'.length) (o : HAV (.slice r.ha x.hs.length r.hc) w w') (hn : HLV w' (.slice r.ha x.hs.length r.hc) hs') : EntsLV w' base (.slice (some ⟨g, 0, none⟩) n cap) (A ++ ({ x with hs := hs' }, r) :: B) := by
  have hx := h.rows (x, r) (by simp)
  refine h.keepG o (own_rblk1 r _) (by unfold entW; simp [hl]) ?_
  obtain ⟨a1, a2, a3, a4, a5, a6, a7, a8, a9, a10, a11, a12⟩ := hx
  simp only at a1 a2 a3 a4 a5 a6 a7 a8 a9 a10 a11 a12
  have b2 := a2.av o (ne_sw a7)
  have b3 := a3.av o (ne_sw a8)
  rw [hl] at hn a4 a7 a8 a10
  exact ⟨hn, b2, b3, a4, a5, a6, a7, a8, a9, a10, a11, a12⟩
theorem EntsLV.bl {w w' : World} {base g n cap : Nat} {A B : List (Ent × EntR)} {x : Ent} {r : EntR} (h : EntsLV w base (.slice (some ⟨g, 0, none⟩) n cap) (A ++ (x, r) :: B)) (bl' : List UInt8) (hl : x.bl.length = bl'.length) (o : HAV (.slice r.ba x.bl.length r.bc) w w') (hn : BLV w' (.slice r.ba x.bl.length r.bc) bl') : EntsLV w' base (.slice (some ⟨g, 0, none⟩) n cap) (A ++ ({ x with bl := bl' }, r) :: B) := by
  have hx := h.rows (x, r) (by simp)
  refine h.keepG o (own_rblk2 r _) (by unfold entW; simp [hl]) ?_
  obtain ⟨a1, a2, a3, a4, a5, a6, a7, a8, a9, a10, a11, a12⟩ := hx
  simp only at a1 a2 a3 a4 a5 a6 a7 a8 a9 a10 a11 a12
  have b1 := a1.av o a7
  have b3 := a3.av o (ne_sw a9)
  rw [hl] at hn a5 a7 a9 a11
  exact ⟨b1, hn, b3, a4, a5, a6, a7, a8, a9, a10, a11, a12⟩
theorem EntsLV.ts {w w' : World} {base g n cap : Nat} {A B : List (Ent × EntR)} {x : Ent} {r : EntR} (h : EntsLV w base (.slice (some ⟨g, 0, none⟩) n cap) (A ++ (x, r) :: B)) (ts' : List ByteArray) (hl : x.ts.length = ts'.length) (o : HAV (.slice r.ta x.ts.length r.tc) w w') (hn : TLV w' (.slice r.ta x.ts.length r.tc) ts') : EntsLV w' base (.slice (some ⟨g, 0, none⟩) n cap) (A ++ ({ x with ts := ts' }, r) :: B) := by
  have hx := h.rows (x, r) (by simp)
  refine h.keepG o (own_rblk3 r _) (by unfold entW; simp [hl]) ?_
  obtain ⟨a1, a2, a3, a4, a5, a6, a7, a8, a9, a10, a11, a12⟩ := hx
  simp only at a1 a2 a3 a4 a5 a6 a7 a8 a9 a10 a11 a12
  have b1 := a1.av o a8
  have b2 := a2.av o a9
  rw [hl] at hn a6 a8 a9 a12
  exact ⟨b1, b2, hn, a4, a5, a6, a7, a8, a9, a10, a11, a12⟩
/-- Two lists that share no memory. -/
structure StoLV (w : World) (base : Nat) (v1 v2 : Value) (l1 l2 : List (Ent × EntR)) : Prop where
  t : EntsLV w base v1 l1
  k : EntsLV w base v2 l2
  nd : ∀ b ∈ fp v1 l1, b ∉ fp v2 l2
theorem StoO.lv {w : World} {base : Nat} {v1 v2 : Value} {l1 l2 : List (Ent × EntR)} (h : StoO w base v1 v2 l1 l2) : StoLV w base v1 v2 l1 l2 := ⟨h.t.lv, h.k.lv, h.nd⟩
theorem StoLV.below {w w' : World} {base : Nat} {v1 v2 : Value} {l1 l2 : List (Ent × EntR)} (h : StoLV w base v1 v2 l1 l2) (hb : Below w.heap.size w w') : StoLV w' base v1 v2 l1 l2 := ⟨h.t.below hb, h.k.below hb, h.nd⟩
theorem StoLV.out {w w' : World} {F : List Nat} {base : Nat} {v1 v2 : Value} {l1 l2 : List (Ent × EntR)} (h : StoLV w base v1 v2 l1 l2) (o : Out F w w') (h1 : ∀ b ∈ F, b ∉ fp v1 l1) (h2 : ∀ b ∈ F, b ∉ fp v2 l2) : StoLV w' base v1 v2 l1 l2 :=
  ⟨h.t.out o fun b hb e => h1 b e hb, h.k.out o fun b hb e => h2 b e hb, h.nd⟩
theorem Out.of_above {hi : Nat} {w w' : World} (h : Above hi w w') : Out (List.range hi) w w' :=
  ⟨h.size, fun b o hb hn => h.cell b o (by simp at hn; exact hn) hb, fun b o hb hn => h.frozen b o (by simp at hn; exact hn) hb⟩
theorem StoLV.above {w w' : World} {hi base : Nat} {v1 v2 : Value} {l1 l2 : List (Ent × EntR)} (h : StoLV w base v1 v2 l1 l2) (k : Above hi w w') (hb : hi ≤ base) : StoLV w' base v1 v2 l1 l2 :=
  h.out (.of_above k) (fun b hm e => by have := h.t.ge e; simp at hm; omega) (fun b hm e => by have := h.k.ge e; simp at hm; omega)
theorem StoLV.lower {w : World} {base b0 : Nat} {v1 v2 : Value} {l1 l2 : List (Ent × EntR)} (h : StoLV w base v1 v2 l1 l2) (hb : b0 ≤ base) : StoLV w b0 v1 v2 l1 l2 := ⟨h.t.lower hb, h.k.lower hb, h.nd⟩
end Go.Proofs.YtdooopkpnanekaaGreatDoor
/-
  Entries of one's own, marked all over: what they hold then.
-/
namespace Go.Proofs.YtdooopkpnanekaaGreatDoor
open Go.ChangeShapes Go.WideShapes Go.ChangeAt Go.RowKit Go.Sort
def mkBL (k n : Nat) : List UInt8 := (List.range n).map fun j => UInt8.ofNat ((k + j) % 256)
theorem mkBL_len (k n : Nat) : (mkBL k n).length = n := by simp [mkBL]
theorem mkBL_get {k n i : Nat} (h : i < n) : (mkBL k n)[i]? = some (UInt8.ofNat ((k + i) % 256)) := by simp [mkBL, h]
theorem mk_byte (k : Nat) : (((UInt8.ofNat (k % 256)).toNat : Nat) : Int) = ((k : Nat) : Int) % 256 := by
  have : (UInt8.ofNat (k % 256)).toNat = k % 256 := by simp [UInt8.toNat_ofNat']
  rw [this]; omega
theorem markByteS_blv (w : World) (v : Value) (l : List UInt8) (k : Nat) (hk : k ≤ 100000000000000) (hl : l.length ≤ 1048576) (h : BLV w v l) (base : Nat) (hb : ∀ b, v.ownBlock = some b → base ≤ b) (hbs : base ≤ w.heap.size) :
    Calls Tryz.prog 79 #[v, .int .i64 (k : Int)] w fun e w' => e = .returned (.int .i64 ((k + l.length : Nat) : Int)) ∧ BLV w' v (mkBL k l.length) ∧ HAV v w w' ∧ Below base w w' := by
  rcases h with ⟨rfl, rfl⟩ | ⟨g, c, rfl, hg, hi, hf⟩
  · exact (markByteS_nil w none 0 k).mono fun _ _ ⟨h1, h2⟩ => ⟨h1, .inl ⟨rfl, rfl⟩, .below h2, h2.mono hbs⟩
  · refine (markByteS_row w g l.length c k base hl hk (hb g rfl) hg ?_).mono ?_
    · intro j hj
      have := hi j l[j] (List.getElem?_eq_getElem hj)
      rw [Nat.zero_add] at this
      exact ⟨⟨_, this⟩, hf j⟩
    · rintro e w' ⟨h1, h2, h3, h4⟩
      refine ⟨h1, .inr ⟨g, c, by rw [mkBL_len], by rw [h3.size]; exact hg, fun i q hq => ?_, fun o => by rw [h3.frozen]; exact hf o⟩, ⟨Nat.le_of_eq h3.size.symm, h3.cell, fun b o _ _ => h3.frozen b o⟩, h4⟩
      have hi := (List.getElem?_eq_some_iff.1 hq).1
      rw [mkBL_len] at hi
      rw [mkBL_get hi] at hq
      obtain rfl := Option.some.inj hq
      rcases h2 with h2 | ⟨g', c', e', _, h2⟩
      · omega
      · simp only [Value.slice.injEq, Option.some.injEq, Addr.mk.injEq] at e'
        obtain ⟨⟨rfl, _⟩, _, rfl⟩ := e'
        rw [Nat.zero_add, h2 i hi, mk_byte]
theorem BLV.markB {w : World} {v : Value} {k n : Nat} (h : BLV w v (mkBL k n)) : MarkB w v k n := by
  rcases h with ⟨_, h⟩ | ⟨g, c, rfl, hg, hi, hf⟩
  · have := congrArg List.length h
    rw [mkBL_len] at this
    exact .inl this
  · refine .inr ⟨g, c, by rw [mkBL_len], hg, fun i hi' => ?_⟩
    have := hi i _ (mkBL_get hi')
    rw [Nat.zero_add] at this
    rw [this, mk_byte]
def bq (n : Int) : Bool := n % 3 == 0
/-- An entry once it was marked from number k on; m: behind its head lines and its body. -/
def mkEnt (k : Nat) (x : Ent) : Ent :=
  { key := mkT k, st := (k : Int) + 1, hs := mkHL (k + 1 + 1) x.hs.length, bl := mkBL (k + 1 + 1 + 2 * x.hs.length) x.bl.length,
    t := ((k + 1 + 1 + 2 * x.hs.length + x.bl.length : Nat) : Int), g := ((k + 1 + 1 + 2 * x.hs.length + x.bl.length : Nat) : Int) + 1, l := ((k + 1 + 1 + 2 * x.hs.length + x.bl.length : Nat) : Int) + 1 + 1, s := ((k + 1 + 1 + 2 * x.hs.length + x.bl.length : Nat) : Int) + 1 + 1 + 1, e := ((k + 1 + 1 + 2 * x.hs.length + x.bl.length : Nat) : Int) + 1 + 1 + 1 + 1,
    b1 := bq (((k + 1 + 1 + 2 * x.hs.length + x.bl.length : Nat) : Int) + 1 + 1 + 1 + 1 + 1), b2 := bq (((k + 1 + 1 + 2 * x.hs.length + x.bl.length : Nat) : Int) + 1 + 1 + 1 + 1 + 1 + 1),
    ts := mkTL (k + 1 + 1 + 2 * x.hs.length + x.bl.length + 7) x.ts.length, pins := ((k + 1 + 1 + 2 * x.hs.length + x.bl.length + 7 + x.ts.length : Nat) : Int) }
def nxt (x : Ent) : Nat := 10 + 2 * x.hs.length + x.bl.length + x.ts.length
def mkEs : Nat → List (Ent × EntR) → List (Ent × EntR)
  | _, [] => []
  | k, q :: l => (mkEnt k q.1, q.2) :: mkEs (k + nxt q.1) l
def nxts : Nat → List (Ent × EntR) → Nat
  | k, [] => k
  | k, q :: l => nxts (k + nxt q.1) l
theorem mkEs_len (k : Nat) (l : List (Ent × EntR)) : (mkEs k l).length = l.length := by
  induction l generalizing k with
  | nil => rfl
  | cons q l ih => simp [mkEs, ih]
theorem mkEs_app (k : Nat) (l m : List (Ent × EntR)) : mkEs k (l ++ m) = mkEs k l ++ mkEs (nxts k l) m := by
  induction l generalizing k with
  | nil => rfl
  | cons q l ih => simp [mkEs, nxts, ih]
theorem nxts_app (k : Nat) (l m : List (Ent × EntR)) : nxts k (l ++ m) = nxts (nxts k l) m := by
  induction l generalizing k with
  | nil => rfl
  | cons q l ih => simp [nxts, ih]
theorem nxts_ge (k : Nat) (l : List (Ent × EntR)) : k ≤ nxts k l := by
  induction l generalizing k with
  | nil => exact Nat.le_refl _
  | cons q l ih => have := ih (k + nxt q.1); simp only [nxts]; omega
theorem nxts_le (k : Nat) (l : List (Ent × EntR)) (h : ∀ q ∈ l, EntFit q.1) : nxts k l ≤ k + l.length * 4194314 := by
  induction l generalizing k with
  | nil => simp [nxts]
  | cons q l ih =>
    have := ih (k + nxt q.1) (fun p hp => h p (by simp [hp]))
    have f := h q (by simp)
    have := f.h; have := f.b; have := f.t
    simp only [nxts, List.length_cons, nxt] at *
    omega
theorem foot_mkEs (k : Nat) (l : List (Ent × EntR)) : foot (mkEs k l) = foot l := by
  induction l generalizing k with
  | nil => rfl
  | cons q l ih => have := ih (k + nxt q.1); simp only [foot, mkEs, List.flatMap_cons] at *; rw [this]
/-- While one of the entries is marked. -/
structure MK (w : World) (F : List Nat) (base g n cap k : Nat) (A B : List (Ent × EntR)) (x : Ent) (r : EntR) (W : World) : Prop where
  en : EntsLV W base (.slice (some ⟨g, 0, none⟩) n cap) (A ++ (x, r) :: B)
  ou : Out F w W
  be : Below base w W
  le : base ≤ w.heap.size
  gF : g ∈ F
  rF : ∀ b ∈ rblk r, b ∈ F
  hk : A.length = k
section
variable {w W W' : World} {F : List Nat} {base g n cap k : Nat} {A B : List (Ent × EntR)} {x : Ent} {r : EntR}
theorem MK.below (h : MK w F base g n cap k A B x r W) (b : Below W.heap.size W W') : MK w F base g n cap k A B x r W' :=
  ⟨h.en.below b, h.ou.trans (.below b), h.be.trans (b.mono (Nat.le_trans h.le h.be.size)), h.le, h.gF, h.rF, h.hk⟩
theorem MK.set (h : MK w F base g n cap k A B x r W) (j : Nat) (hj : j < 13) (u : Value) (x' : Ent) (e : entW x' r = (entW x r).set j u) (eh : x'.hs = x.hs) (eb : x'.bl = x.bl) (et : x'.ts = x.ts) : MK w F base g n cap k A B x' r (W.setCell ⟨g, k * 13 + j, none⟩ u) :=
  ⟨h.en.set h.hk j hj u x' e eh eb et, h.ou.trans ((Out.set W g _ u).mono (by simp [h.gF])), h.be.setCell h.en.at.2.2.1 u, h.le, h.gF, h.rF, h.hk⟩
theorem MK.hs (h : MK w F base g n cap k A B x r W) (hs' : List Hdr) (hl : x.hs.length = hs'.length) (o : HAV (.slice r.ha x.hs.length r.hc) W W') (b : Below base W W') (hn : HLV W' (.slice r.ha x.hs.length r.hc) hs') : MK w F base g n cap k A B { x with hs := hs' } r W' :=
  ⟨h.en.hs hs' hl o hn, h.ou.trans ((Out.hav o).mono fun q hq => h.rF q (own_rblk1 r _ q hq)), h.be.trans b, h.le, h.gF, h.rF, h.hk⟩
theorem MK.bl (h : MK w F base g n cap k A B x r W) (bl' : List UInt8) (hl : x.bl.length = bl'.length) (o : HAV (.slice r.ba x.bl.length r.bc) W W') (b : Below base W W') (hn : BLV W' (.slice r.ba x.bl.length r.bc) bl') : MK w F base g n cap k A B { x with bl := bl' } r W' :=
  ⟨h.en.bl bl' hl o hn, h.ou.trans ((Out.hav o).mono fun q hq => h.rF q (own_rblk2 r _ q hq)), h.be.trans b, h.le, h.gF, h.rF, h.hk⟩
theorem MK.ts (h : MK w F base g n cap k A B x r W) (ts' : List ByteArray) (hl : x.ts.length = ts'.length) (o : HAV (.slice r.ta x.ts.length r.tc) W W') (b : Below base W W') (hn : TLV W' (.slice r.ta x.ts.length r.tc) ts') : MK w F base g n cap k A B { x with ts := ts' } r W' :=
  ⟨h.en.ts ts' hl o hn, h.ou.trans ((Out.hav o).mono fun q hq => h.rF q (own_rblk3 r _ q hq)), h.be.trans b, h.le, h.gF, h.rF, h.hk⟩
theorem MK.row (h : MK w F base g n cap k A B x r W) : EntLV W base x r := h.en.rows (x, r) (by simp)
theorem MK.sz (h : MK w F base g n cap k A B x r W) : base ≤ W.heap.size := Nat.le_trans h.le h.be.size
theorem MK.cells (h : MK w F base g n cap k A B x r W) : ∀ j, j < 13 → W.cell? ⟨g, k * 13 + j, none⟩ = (entW x r)[j]? := by
  have := h.en.at.2.2.2.2.1 A.length (x, r) (mid_eq _ _ _)
  rw [h.hk] at this
  exact this
theorem MK.fr (h : MK w F base g n cap k A B x r W) : ∀ o, W.frozen? ⟨g, o, none⟩ = false := h.en.at.2.2.2.2.2
end
set_option maxRecDepth 100000 in
set_option maxHeartbeats 16000000 in
theorem markES_o (w : World) (base G cap c0 : Nat) (l : List (Ent × EntR)) (hl : l.length ≤ 1048576) (hf : ∀ q ∈ l, EntFit q.1) (h : EntsLV w base (.slice (some ⟨G, 0, none⟩) l.length cap) l) (hbs : base ≤ w.heap.size) (hc0 : 1 ≤ c0) (hc1 : c0 ≤ 10000000000000) :
    Calls Tryz.prog 62 #[.slice (some ⟨G, 0, none⟩) l.length cap, .int .i64 (c0 : Int)] w fun e w' => e = .returned (.int .i64 (nxts c0 l : Int)) ∧ EntsLV w' base (.slice (some ⟨G, 0, none⟩) l.length cap) (mkEs c0 l) ∧ Out (G :: foot l) w w' ∧ Below base w w' := by
  have HFT : Hid (∀ q ∈ l, EntFit q.1) := hf
  have HBS : Hid (base ≤ w.heap.size) := hbs
  obtain ⟨n, hn0⟩ : ∃ n, l.length = n := ⟨_, rfl⟩
  rw [hn0] at hl h ⊢
  have HN : Hid (l.length = n) := hn0
  have HST : Hid (EntsLV w base (.slice (some ⟨G, 0, none⟩) n cap) l) := h
  clear hn0 h hf hbs
  go_enter Tryz.func62, Tryz.ntmps62
  go_wp2_with fail
  go_loopw [1, 5] (fun x i wr => ∃ A B : List (Ent × EntR), l = A ++ B ∧ i = .int .i64 (A.length : Int) ∧ x = .int .i64 (nxts c0 A : Int) ∧ EntsLV wr base (.slice (some ⟨G, 0, none⟩) n cap) (mkEs c0 A ++ B) ∧ Out (G :: foot l) w wr ∧ Below base w wr) (fun _ i _ => n - (intOf i).toNat)
  case atStart => exact ⟨[], l, rfl, rfl, rfl, HST.out, Out.refl _ _, Below.refl _ _⟩
  case round =>
    obtain ⟨A, B, hAB, rfl, rfl, ho, hout, hb⟩ := hrel
    clear HST
    obtain ⟨k, hk⟩ : ∃ k, A.length = k := ⟨_, rfl⟩
    obtain ⟨c, hc⟩ : ∃ c, nxts c0 A = c := ⟨_, rfl⟩
    have HCA : Hid (nxts c0 A = c ∧ A.length = k) := ⟨hc, hk⟩
    have hlen : n = k + B.length := by have := HN.out; rw [hAB, List.length_append] at this; omega
    have hcge : 1 ≤ c := by have := nxts_ge c0 A; omega
    have hcle : c ≤ c0 + k * 4194314 := by have := nxts_le c0 A (fun q hq => HFT.out q (by rw [hAB]; simp [hq])); omega
    rw [hk, hc]
    cases B with
    | cons q B =>
      obtain ⟨x, r⟩ := q
      simp only [List.length_cons] at hlen
      have hkn : k < n := by omega
      have hnl : k ≤ 1048576 := by omega
      clear hlen
      have ft := HFT.out (x, r) (by rw [hAB]; simp)
      have HAB : Hid (l = A ++ (x, r) :: B) := hAB
      obtain ⟨A', hA'⟩ : ∃ A', mkEs c0 A = A' := ⟨_, rfl⟩
      have HA' : Hid (mkEs c0 A = A') := hA'
      rw [hA'] at ho
      have Q0 : Hid (MK w (G :: foot l) base G n cap k A' B x r wr) := ⟨ho, hout, hb, HBS.out, by simp, fun b hb => by rw [hAB, foot_mid]; simp [hb], by rw [← hA', mkEs_len, hk]⟩
      clear ho hout hb hAB hk hc hA'
      obtain ⟨f1, f2, f3⟩ := ft
      simp only at f1 f2 f3
      have CT : Hid (Calls Tryz.prog 126 #[.int .i64 (c : Int)] wr fun e w' => e = .returned (.string (mkT c)) ∧ Below wr.heap.size wr w') := markText_any c (by omega) (by omega) wr
      have gk : (k : Int) < n := by omega
      have gk0 : (0 : Int) ≤ k := by omega
      go_wp2_with fail
      refine CT.out.mono ?_
      rintro e w1 ⟨rfl, hb1⟩
      have Q1 := Q0.out.below hb1
      have g0 : w1.cell? ⟨G, k * 13, none⟩ = some (.string x.key) := Q1.cells 0 (by omega)
      have g1 : w1.cell? ⟨G, k * 13 + 1, none⟩ = some (.int .i64 x.st) := Q1.cells 1 (by omega)
      have y2 : w1.cell? ⟨G, k * 13 + 2, none⟩ = some (.slice r.ha x.hs.length r.hc) := Q1.cells 2 (by omega)
      have f0 := Q1.fr (k * 13)
      have fz1 := Q1.fr (k * 13 + 1)
      obtain ⟨V1, hV1⟩ : ∃ V, V = (w1.setCell ⟨G, k * 13, none⟩ (.string (mkT c))).setCell ⟨G, k * 13 + 1, none⟩ (.int .i64 ((c : Int) + 1)) := ⟨_, rfl⟩
      have HV1 : Hid (V1 = (w1.setCell ⟨G, k * 13, none⟩ (.string (mkT c))).setCell ⟨G, k * 13 + 1, none⟩ (.int .i64 ((c : Int) + 1))) := hV1
      have Q2 : Hid (MK w (G :: foot l) base G n cap k A' B { x with key := mkT c, st := (c : Int) + 1 } r V1) := by
        rw [hV1]
        exact (Q1.set 0 (by omega) (.string (mkT c)) { x with key := mkT c } rfl rfl rfl rfl).set 1 (by omega) (.int .i64 ((c : Int) + 1)) { x with key := mkT c, st := (c : Int) + 1 } rfl rfl rfl rfl
      clear hV1 hb1 CT Q0 Q1
      have e1 : IntKind.i64.wrap ((c : Int) + 1) = (c : Int) + 1 := by unfold IntKind.wrap; simp [IntKind.signed, IntKind.bits]; omega
      have e2 : IntKind.i64.wrap ((c : Int) + 1 + 1) = (c : Int) + 1 + 1 := by unfold IntKind.wrap; simp [IntKind.signed, IntKind.bits]; omega
      obtain ⟨d, hd⟩ : ∃ d : Nat, Hid (c + 1 + 1 + 2 * x.hs.length = d) := ⟨_, rfl⟩
      have CH : Hid (Calls Tryz.prog 78 #[.slice r.ha x.hs.length r.hc, .int .i64 ((c : Int) + 1 + 1)] V1 fun e w' => e = .returned (.int .i64 (d : Int)) ∧ MK w (G :: foot l) base G n cap k A' B { x with key := mkT c, st := (c : Int) + 1, hs := mkHL (c + 1 + 1) x.hs.length } r w') := by
        have := markHeaderS_lvk V1 (.slice r.ha x.hs.length r.hc) x.hs (c + 1 + 1) (by omega) (by omega) f1 Q2.out.row.h base Q2.out.row.gh Q2.out.sz
        rw [show (((c + 1 + 1 : Nat)) : Int) = (c : Int) + 1 + 1 from by omega, hd.out] at this
        exact this.mono (fun e w' h => ⟨h.1, Q2.out.hs _ (mkHL_len _ _).symm h.2.2.1 h.2.2.2 h.2.1⟩)
      go_wp2_with fail
      rw [← HV1.out]
      refine CH.out.mono ?_
      rintro e w3 ⟨rfl, Q3⟩
      have HQ3 : Hid _ := Q3
      clear Q2 CH HV1 y2 g0 f0 g1 fz1 e1 e2 Q3
      have y3 : w3.cell? ⟨G, k * 13 + 3, none⟩ = some (.slice r.ba x.bl.length r.bc) := HQ3.out.cells 3 (by omega)
      have hdle : d ≤ c + 2 + 2 * x.hs.length := by have := hd.out; omega
      have hdge : 1 ≤ d := by have := hd.out; omega
      obtain ⟨m, hm⟩ : ∃ m : Nat, Hid (d + x.bl.length = m) := ⟨_, rfl⟩
      have CB : Hid (Calls Tryz.prog 79 #[.slice r.ba x.bl.length r.bc, .int .i64 (d : Int)] w3 fun e w' => e = .returned (.int .i64 (m : Int)) ∧ MK w (G :: foot l) base G n cap k A' B { x with key := mkT c, st := (c : Int) + 1, hs := mkHL (c + 1 + 1) x.hs.length, bl := mkBL d x.bl.length } r w') := by
        have := markByteS_blv w3 (.slice r.ba x.bl.length r.bc) x.bl d (by omega) f2 HQ3.out.row.b base HQ3.out.row.gb HQ3.out.sz
        rw [hm.out] at this
        exact this.mono (fun e w' h => ⟨h.1, HQ3.out.bl _ (mkBL_len _ _).symm h.2.2.1 h.2.2.2 h.2.1⟩)
      go_wp2_with fail
      refine CB.out.mono ?_
      rintro e w4 ⟨rfl, Q4⟩
      have HQ4 : Hid _ := Q4
      clear HQ3 CB y3 Q4
      have hmle : m ≤ c + 2 + 2 * x.hs.length + x.bl.length := by have := hm.out; omega
      have hmge : 1 ≤ m := by have := hm.out; omega
      have g4 : w4.cell? ⟨G, k * 13 + 4, none⟩ = some (.int .i64 x.t) := HQ4.out.cells 4 (by omega)
      have g5 : w4.cell? ⟨G, k * 13 + 5, none⟩ = some (.int .i64 x.g) := HQ4.out.cells 5 (by omega)
      have g6 : w4.cell? ⟨G, k * 13 + 6, none⟩ = some (.int .i64 x.l) := HQ4.out.cells 6 (by omega)
      have g7 : w4.cell? ⟨G, k * 13 + 7, none⟩ = some (.int .i64 x.s) := HQ4.out.cells 7 (by omega)
      have g8 : w4.cell? ⟨G, k * 13 + 8, none⟩ = some (.int .i64 x.e) := HQ4.out.cells 8 (by omega)
      have g9 : w4.cell? ⟨G, k * 13 + 9, none⟩ = some (.bool x.b1) := HQ4.out.cells 9 (by omega)
      have g10 : w4.cell? ⟨G, k * 13 + 10, none⟩ = some (.bool x.b2) := HQ4.out.cells 10 (by omega)
      have y11 : w4.cell? ⟨G, k * 13 + 11, none⟩ = some (.slice r.ta x.ts.length r.tc) := HQ4.out.cells 11 (by omega)
      have fz4 := HQ4.out.fr (k * 13 + 4)
      have fz5 := HQ4.out.fr (k * 13 + 5)
      have fz6 := HQ4.out.fr (k * 13 + 6)
      have fz7 := HQ4.out.fr (k * 13 + 7)
      have fz8 := HQ4.out.fr (k * 13 + 8)
      have fz9 := HQ4.out.fr (k * 13 + 9)
      have fz10 := HQ4.out.fr (k * 13 + 10)
      have s1 : IntKind.i64.wrap ((m : Int) + 1) = (m : Int) + 1 := by unfold IntKind.wrap; simp [IntKind.signed, IntKind.bits]; omega
      have s2 : IntKind.i64.wrap ((m : Int) + 1 + 1) = (m : Int) + 1 + 1 := by unfold IntKind.wrap; simp [IntKind.signed, IntKind.bits]; omega
      have s3 : IntKind.i64.wrap ((m : Int) + 1 + 1 + 1) = (m : Int) + 1 + 1 + 1 := by unfold IntKind.wrap; simp [IntKind.signed, IntKind.bits]; omega
      have s4 : IntKind.i64.wrap ((m : Int) + 1 + 1 + 1 + 1) = (m : Int) + 1 + 1 + 1 + 1 := by unfold IntKind.wrap; simp [IntKind.signed, IntKind.bits]; omega
      have s5 : IntKind.i64.wrap ((m : Int) + 1 + 1 + 1 + 1 + 1) = (m : Int) + 1 + 1 + 1 + 1 + 1 := by unfold IntKind.wrap; simp [IntKind.signed, IntKind.bits]; omega
      have s6 : IntKind.i64.wrap ((m : Int) + 1 + 1 + 1 + 1 + 1 + 1) = (m : Int) + 1 + 1 + 1 + 1 + 1 + 1 := by unfold IntKind.wrap; simp [IntKind.signed, IntKind.bits]; omega
      have s7 : IntKind.i64.wrap ((m : Int) + 1 + 1 + 1 + 1 + 1 + 1 + 1) = (m : Int) + 1 + 1 + 1 + 1 + 1 + 1 + 1 := by unfold IntKind.wrap; simp [IntKind.signed, IntKind.bits]; omega
      obtain ⟨V4, hV4⟩ : ∃ V, V = ((((((w4.setCell ⟨G, k * 13 + 4, none⟩ (.int .i64 (m : Int))).setCell ⟨G, k * 13 + 4 + 1, none⟩ (.int .i64 ((m : Int) + 1))).setCell ⟨G, k * 13 + 4 + 2, none⟩ (.int .i64 ((m : Int) + 1 + 1))).setCell ⟨G, k * 13 + 4 + 3, none⟩ (.int .i64 ((m : Int) + 1 + 1 + 1))).setCell ⟨G, k * 13 + 4 + 4, none⟩ (.int .i64 ((m : Int) + 1 + 1 + 1 + 1))).setCell ⟨G, k * 13 + 4 + 5, none⟩ (.bool (((m : Int) + 1 + 1 + 1 + 1 + 1) % 3 == 0))).setCell ⟨G, k * 13 + 4 + 6, none⟩ (.bool (((m : Int) + 1 + 1 + 1 + 1 + 1 + 1) % 3 == 0)) := ⟨_, rfl⟩
      have HV4 : Hid (V4 = ((((((w4.setCell ⟨G, k * 13 + 4, none⟩ (.int .i64 (m : Int))).setCell ⟨G, k * 13 + 4 + 1, none⟩ (.int .i64 ((m : Int) + 1))).setCell ⟨G, k * 13 + 4 + 2, none⟩ (.int .i64 ((m : Int) + 1 + 1))).setCell ⟨G, k * 13 + 4 + 3, none⟩ (.int .i64 ((m : Int) + 1 + 1 + 1))).setCell ⟨G, k * 13 + 4 + 4, none⟩ (.int .i64 ((m : Int) + 1 + 1 + 1 + 1))).setCell ⟨G, k * 13 + 4 + 5, none⟩ (.bool (((m : Int) + 1 + 1 + 1 + 1 + 1) % 3 == 0))).setCell ⟨G, k * 13 + 4 + 6, none⟩ (.bool (((m : Int) + 1 + 1 + 1 + 1 + 1 + 1) % 3 == 0))) := hV4
      have Q5 : Hid (MK w (G :: foot l) base G n cap k A' B { x with key := mkT c, st := (c : Int) + 1, hs := mkHL (c + 1 + 1) x.hs.length, bl := mkBL d x.bl.length, t := (m : Int), g := (m : Int) + 1, l := (m : Int) + 1 + 1, s := (m : Int) + 1 + 1 + 1, e := (m : Int) + 1 + 1 + 1 + 1, b1 := bq ((m : Int) + 1 + 1 + 1 + 1 + 1), b2 := bq ((m : Int) + 1 + 1 + 1 + 1 + 1 + 1) } r V4) := by
        rw [hV4]
        have a4 := HQ4.out.set 4 (by omega) (.int .i64 (m : Int)) { x with key := mkT c, st := (c : Int) + 1, hs := mkHL (c + 1 + 1) x.hs.length, bl := mkBL d x.bl.length, t := (m : Int) } rfl rfl rfl rfl
        have a5 := a4.set 5 (by omega) (.int .i64 ((m : Int) + 1)) { x with key := mkT c, st := (c : Int) + 1, hs := mkHL (c + 1 + 1) x.hs.length, bl := mkBL d x.bl.length, t := (m : Int), g := (m : Int) + 1 } rfl rfl rfl rfl
        have a6 := a5.set 6 (by omega) (.int .i64 ((m : Int) + 1 + 1)) { x with key := mkT c, st := (c : Int) + 1, hs := mkHL (c + 1 + 1) x.hs.length, bl := mkBL d x.bl.length, t := (m : Int), g := (m : Int) + 1, l := (m : Int) + 1 + 1 } rfl rfl rfl rfl
        have a7 := a6.set 7 (by omega) (.int .i64 ((m : Int) + 1 + 1 + 1)) { x with key := mkT c, st := (c : Int) + 1, hs := mkHL (c + 1 + 1) x.hs.length, bl := mkBL d x.bl.length, t := (m : Int), g := (m : Int) + 1, l := (m : Int) + 1 + 1, s := (m : Int) + 1 + 1 + 1 } rfl rfl rfl rfl
        have a8 := a7.set 8 (by omega) (.int .i64 ((m : Int) + 1 + 1 + 1 + 1)) { x with key := mkT c, st := (c : Int) + 1, hs := mkHL (c + 1 + 1) x.hs.length, bl := mkBL d x.bl.length, t := (m : Int), g := (m : Int) + 1, l := (m : Int) + 1 + 1, s := (m : Int) + 1 + 1 + 1, e := (m : Int) + 1 + 1 + 1 + 1 } rfl rfl rfl rfl
        have a9 := a8.set 9 (by omega) (.bool (bq ((m : Int) + 1 + 1 + 1 + 1 + 1))) { x with key := mkT c, st := (c : Int) + 1, hs := mkHL (c + 1 + 1) x.hs.length, bl := mkBL d x.bl.length, t := (m : Int), g := (m : Int) + 1, l := (m : Int) + 1 + 1, s := (m : Int) + 1 + 1 + 1, e := (m : Int) + 1 + 1 + 1 + 1, b1 := bq ((m : Int) + 1 + 1 + 1 + 1 + 1) } rfl rfl rfl rfl
        exact a9.set 10 (by omega) (.bool (bq ((m : Int) + 1 + 1 + 1 + 1 + 1 + 1))) { x with key := mkT c, st := (c : Int) + 1, hs := mkHL (c + 1 + 1) x.hs.length, bl := mkBL d x.bl.length, t := (m : Int), g := (m : Int) + 1, l := (m : Int) + 1 + 1, s := (m : Int) + 1 + 1 + 1, e := (m : Int) + 1 + 1 + 1 + 1, b1 := bq ((m : Int) + 1 + 1 + 1 + 1 + 1), b2 := bq ((m : Int) + 1 + 1 + 1 + 1 + 1 + 1) } rfl rfl rfl rfl
      clear hV4 HQ4
      obtain ⟨p, hp⟩ : ∃ p : Nat, Hid (m + 7 + x.ts.length = p) := ⟨_, rfl⟩
      have CS : Hid (Calls Tryz.prog 80 #[.slice r.ta x.ts.length r.tc, .int .i64 ((m : Int) + 1 + 1 + 1 + 1 + 1 + 1 + 1)] V4 fun e w' => e = .returned (.int .i64 (p : Int)) ∧ MK w (G :: foot l) base G n cap k A' B { x with key := mkT c, st := (c : Int) + 1, hs := mkHL (c + 1 + 1) x.hs.length, bl := mkBL d x.bl.length, t := (m : Int), g := (m : Int) + 1, l := (m : Int) + 1 + 1, s := (m : Int) + 1 + 1 + 1, e := (m : Int) + 1 + 1 + 1 + 1, b1 := bq ((m : Int) + 1 + 1 + 1 + 1 + 1), b2 := bq ((m : Int) + 1 + 1 + 1 + 1 + 1 + 1), ts := mkTL (m + 7) x.ts.length } r w') := by
        have := markStringS_lvk V4 (.slice r.ta x.ts.length r.tc) x.ts (m + 7) (by omega) (by omega) f3 Q5.out.row.t base Q5.out.row.gt Q5.out.sz
        rw [show (((m + 7 : Nat)) : Int) = (m : Int) + 1 + 1 + 1 + 1 + 1 + 1 + 1 from by omega, hp.out] at this
        exact this.mono (fun e w' h => ⟨h.1, Q5.out.ts _ (mkTL_len _ _).symm h.2.2.1 h.2.2.2 h.2.1⟩)
      go_wp2_with fail
      rw [← HV4.out]
      refine CS.out.mono ?_
      rintro e w6 ⟨rfl, Q6⟩
      have HQ6 : Hid _ := Q6
      clear Q5 CS Q6 g4 g5 g6 g7 g8 g9 g10 y11 fz4 fz5 fz6 fz7 fz8 fz9 fz10 s1 s2 s3 s4 s5 s6 s7 HV4
      have g12 : w6.cell? ⟨G, k * 13 + 12, none⟩ = some (.int .i64 x.pins) := HQ6.out.cells 12 (by omega)
      have fz12 := HQ6.out.fr (k * 13 + 12)
      have hple : p ≤ c + 9 + 2 * x.hs.length + x.bl.length + x.ts.length := by have := hp.out; omega
      have t1 : IntKind.i64.wrap ((p : Int) + 1) = (p : Int) + 1 := by unfold IntKind.wrap; simp [IntKind.signed, IntKind.bits]; omega
      have FIN : Hid (l = (A ++ [(x, r)]) ++ B ∧ (A ++ [(x, r)]).length = k + 1 ∧ nxts c0 (A ++ [(x, r)]) = p + 1 ∧ EntsLV (w6.setCell ⟨G, k * 13 + 12, none⟩ (.int .i64 (p : Int))) base (.slice (some ⟨G, 0, none⟩) n cap) (mkEs c0 (A ++ [(x, r)]) ++ B) ∧ Out (G :: foot l) w (w6.setCell ⟨G, k * 13 + 12, none⟩ (.int .i64 (p : Int))) ∧ Below base w (w6.setCell ⟨G, k * 13 + 12, none⟩ (.int .i64 (p : Int)))) := by
        have a := HQ6.out.set 12 (by omega) (.int .i64 (p : Int)) { x with key := mkT c, st := (c : Int) + 1, hs := mkHL (c + 1 + 1) x.hs.length, bl := mkBL d x.bl.length, t := (m : Int), g := (m : Int) + 1, l := (m : Int) + 1 + 1, s := (m : Int) + 1 + 1 + 1, e := (m : Int) + 1 + 1 + 1 + 1, b1 := bq ((m : Int) + 1 + 1 + 1 + 1 + 1), b2 := bq ((m : Int) + 1 + 1 + 1 + 1 + 1 + 1), ts := mkTL (m + 7) x.ts.length, pins := (p : Int) } rfl rfl rfl rfl
        have ed := hd.out
        have em := hm.out
        have ep := hp.out
        obtain ⟨ec, ek⟩ := HCA.out
        refine ⟨by rw [HAB.out]; simp, by simp [ek], ?_, ?_, a.ou, a.be⟩
        · rw [nxts_app, ec]; simp only [nxts, nxt]; omega
        · rw [mkEs_app, ec, HA'.out]
          have e2 : mkEnt c x = { x with key := mkT c, st := (c : Int) + 1, hs := mkHL (c + 1 + 1) x.hs.length, bl := mkBL d x.bl.length, t := (m : Int), g := (m : Int) + 1, l := (m : Int) + 1 + 1, s := (m : Int) + 1 + 1 + 1, e := (m : Int) + 1 + 1 + 1 + 1, b1 := bq ((m : Int) + 1 + 1 + 1 + 1 + 1), b2 := bq ((m : Int) + 1 + 1 + 1 + 1 + 1 + 1), ts := mkTL (m + 7) x.ts.length, pins := (p : Int) } := by
            unfold mkEnt; rw [ed, em, ep]
          simp only [mkEs, e2, List.append_assoc, List.singleton_append]
          exact a.en
      clear HQ6 HAB HA' HCA hd hm hp
      go_wp2_with fail
      go_roundw
      case rel => exact ⟨A ++ [(x, r)], B, FIN.out.1, by rw [FIN.out.2.1]; go_num, by rw [FIN.out.2.2.1]; go_num, FIN.out.2.2.2.1, FIN.out.2.2.2.2.1, FIN.out.2.2.2.2.2⟩
      case measure => simp [intOf]; omega
    | nil =>
      simp only [List.length_nil] at hlen
      have e : k = n := by omega
      clear hlen
      subst e
      simp only [List.append_nil] at hAB ho
      subst hAB
      have HE : Hid (c = nxts c0 l ∧ EntsLV wr base (.slice (some ⟨G, 0, none⟩) k cap) (mkEs c0 l) ∧ Out (G :: foot l) w wr ∧ Below base w wr) := ⟨hc.symm, ho, hout, hb⟩
      clear ho hout hb hc HCA hk hcle hcge
      go_wp2_with fail
      go_ret
      exact ⟨congrArg (fun z : Nat => Ending.returned (.int .i64 (z : Int))) HE.out.1, HE.out.2⟩
end Go.Proofs.YtdooopkpnanekaaGreatDoor
/-
  Entries that were marked: held.
-/
namespace Go.Proofs.YtdooopkpnanekaaGreatDoor
open Go.ChangeShapes Go.WideShapes Go.ChangeAt Go.RowKit Go.Sort
set_option maxRecDepth 100000 in
set_option maxHeartbeats 16000000 in
theorem heldES_o (w : World) (base G cap c0 : Nat) (l : List (Ent × EntR)) (hl : l.length ≤ 1048576) (hf : ∀ q ∈ l, EntFit q.1) (h : EntsLV w base (.slice (some ⟨G, 0, none⟩) l.length cap) (mkEs c0 l)) (hc0 : 1 ≤ c0) (hc1 : c0 ≤ 10000000000000) :
    Calls Tryz.prog 127 #[.slice (some ⟨G, 0, none⟩) l.length cap, .int .i64 (c0 : Int)] w fun e w' => e = .returned (.int .i64 (nxts c0 l : Int)) ∧ Below w.heap.size w w' := by
  have HFT : Hid (∀ q ∈ l, EntFit q.1) := hf
  obtain ⟨n, hn0⟩ : ∃ n, l.length = n := ⟨_, rfl⟩
  rw [hn0] at hl h ⊢
  have HN : Hid (l.length = n) := hn0
  have HST : Hid (EntsLV w base (.slice (some ⟨G, 0, none⟩) n cap) (mkEs c0 l)) := h
  clear hn0 h hf
  go_enter Tryz.func127, Tryz.ntmps127
  go_wp2_with fail
  go_loopw [1, 5] (fun x i wr => ∃ A B : List (Ent × EntR), l = A ++ B ∧ i = .int .i64 (A.length : Int) ∧ x = .int .i64 (nxts c0 A : Int) ∧ Below w.heap.size w wr) (fun _ i _ => n - (intOf i).toNat)
  case atStart => exact ⟨[], l, rfl, rfl, rfl, Below.refl _ _⟩
  case round =>
    obtain ⟨A, B, hAB, rfl, rfl, hb⟩ := hrel
    obtain ⟨k, hk⟩ : ∃ k, A.length = k := ⟨_, rfl⟩
    obtain ⟨c, hc⟩ : ∃ c, nxts c0 A = c := ⟨_, rfl⟩
    have HCA : Hid (nxts c0 A = c ∧ A.length = k) := ⟨hc, hk⟩
    have hlen : n = k + B.length := by have := HN.out; rw [hAB, List.length_append] at this; omega
    have hcge : 1 ≤ c := by have := nxts_ge c0 A; omega
    have hcle : c ≤ c0 + k * 4194314 := by have := nxts_le c0 A (fun q hq => HFT.out q (by rw [hAB]; simp [hq])); omega
    rw [hk, hc]
    have HB : Hid (Below w.heap.size w wr) := hb
    cases B with
    | cons q B =>
      obtain ⟨x, r⟩ := q
      simp only [List.length_cons] at hlen
      have hkn : k < n := by omega
      have hnl : k ≤ 1048576 := by omega
      clear hlen
      have ft := HFT.out (x, r) (by rw [hAB]; simp)
      have HAB : Hid (l = A ++ (x, r) :: B) := hAB
      have hes : mkEs c0 l = mkEs c0 A ++ (mkEnt c x, r) :: mkEs (c + nxt x) B := by rw [hAB, mkEs_app, hc]; rfl
      obtain ⟨d, hd⟩ : ∃ d : Nat, Hid (c + 1 + 1 + 2 * x.hs.length = d) := ⟨_, rfl⟩
      obtain ⟨m, hm⟩ : ∃ m : Nat, Hid (d + x.bl.length = m) := ⟨_, rfl⟩
      obtain ⟨p, hp⟩ : ∃ p : Nat, Hid (m + 7 + x.ts.length = p) := ⟨_, rfl⟩
      have hX : ∀ X, Below w.heap.size w X → EntLV X base (mkEnt c x) r ∧ ∀ j, j < 13 → X.cell? ⟨G, k * 13 + j, none⟩ = (entW (mkEnt c x) r)[j]? := fun X hX => by
        have hh := HST.out.below hX
        rw [hes] at hh
        refine ⟨hh.rows (mkEnt c x, r) (by simp), ?_⟩
        have := hh.at.2.2.2.2.1 (mkEs c0 A).length (mkEnt c x, r) (mid_eq _ _ _)
        rw [mkEs_len, hk] at this
        exact this
      have e2 : mkEnt c x = { key := mkT c, st := (c : Int) + 1, hs := mkHL (c + 1 + 1) x.hs.length, bl := mkBL d x.bl.length, t := (m : Int), g := (m : Int) + 1, l := (m : Int) + 1 + 1, s := (m : Int) + 1 + 1 + 1, e := (m : Int) + 1 + 1 + 1 + 1, b1 := bq ((m : Int) + 1 + 1 + 1 + 1 + 1), b2 := bq ((m : Int) + 1 + 1 + 1 + 1 + 1 + 1), ts := mkTL (m + 7) x.ts.length, pins := (p : Int) } := by
        have ed := hd.out
        have em := hm.out
        have ep := hp.out
        unfold mkEnt; rw [ed, em, ep]
      rw [e2] at hX
      have HC : Hid (∀ X, Below w.heap.size w X → X.cell? ⟨G, k * 13, none⟩ = some (.string (mkT c)) ∧ X.cell? ⟨G, k * 13 + 1, none⟩ = some (.int .i64 ((c : Int) + 1)) ∧ X.cell? ⟨G, k * 13 + 2, none⟩ = some (.slice r.ha x.hs.length r.hc) ∧ X.cell? ⟨G, k * 13 + 3, none⟩ = some (.slice r.ba x.bl.length r.bc) ∧ X.cell? ⟨G, k * 13 + 4, none⟩ = some (.int .i64 (m : Int)) ∧ X.cell? ⟨G, k * 13 + 5, none⟩ = some (.int .i64 ((m : Int) + 1)) ∧ X.cell? ⟨G, k * 13 + 6, none⟩ = some (.int .i64 ((m : Int) + 1 + 1)) ∧ X.cell? ⟨G, k * 13 + 7, none⟩ = some (.int .i64 ((m : Int) + 1 + 1 + 1)) ∧ X.cell? ⟨G, k * 13 + 8, none⟩ = some (.int .i64 ((m : Int) + 1 + 1 + 1 + 1)) ∧ X.cell? ⟨G, k * 13 + 9, none⟩ = some (.bool (bq ((m : Int) + 1 + 1 + 1 + 1 + 1))) ∧ X.cell? ⟨G, k * 13 + 10, none⟩ = some (.bool (bq ((m : Int) + 1 + 1 + 1 + 1 + 1 + 1))) ∧ X.cell? ⟨G, k * 13 + 11, none⟩ = some (.slice r.ta x.ts.length r.tc) ∧ X.cell? ⟨G, k * 13 + 12, none⟩ = some (.int .i64 (p : Int))) := fun X hXX => by
        have z := (hX X hXX).2
        have z2 := z 2 (by omega)
        have z3 := z 3 (by omega)
        have z11 := z 11 (by omega)
        simp only [entW, mkHL_len, mkBL_len, mkTL_len, List.getElem?_cons_succ, List.getElem?_cons_zero] at z2 z3 z11
        exact ⟨z 0 (by omega), z 1 (by omega), z2, z3, z 4 (by omega), z 5 (by omega), z 6 (by omega), z 7 (by omega), z 8 (by omega), z 9 (by omega), z 10 (by omega), z11, z 12 (by omega)⟩
      obtain ⟨f1, f2, f3⟩ := ft
      simp only at f1 f2 f3
      have hdle : d ≤ c + 2 + 2 * x.hs.length := by have := hd.out; omega
      have hdge : 1 ≤ d := by have := hd.out; omega
      have hmle : m ≤ c + 2 + 2 * x.hs.length + x.bl.length := by have := hm.out; omega
      have hmge : 1 ≤ m := by have := hm.out; omega
      have hple : p ≤ c + 9 + 2 * x.hs.length + x.bl.length + x.ts.length := by have := hp.out; omega
      have CH : Hid (∀ X, Below w.heap.size w X → Calls Tryz.prog 170 #[.slice r.ha x.hs.length r.hc, .int .i64 ((c : Int) + 1 + 1)] X fun e w' => e = .returned (.int .i64 (d : Int)) ∧ Below X.heap.size X w') := fun X hXX => by
        have hh := (hX X hXX).1.h
        simp only [mkHL_len] at hh
        have := heldHeaderS_lvk X (.slice r.ha x.hs.length r.hc) x.hs.length (c + 1 + 1) (by omega) (by omega) f1 hh
        rw [show (((c + 1 + 1 : Nat)) : Int) = (c : Int) + 1 + 1 from by omega, hd.out] at this
        exact this
      have CB : Hid (∀ X, Below w.heap.size w X → Calls Tryz.prog 171 #[.slice r.ba x.bl.length r.bc, .int .i64 (d : Int)] X fun e w' => e = .returned (.int .i64 (m : Int)) ∧ Below X.heap.size X w') := fun X hXX => by
        have hh := (hX X hXX).1.b.markB
        simp only [mkBL_len] at hh
        have := heldByteS_lvk X r.ba x.bl.length r.bc d (by omega) f2 hh
        rw [hm.out] at this
        exact this
      have CS : Hid (∀ X, Below w.heap.size w X → Calls Tryz.prog 81 #[.slice r.ta x.ts.length r.tc, .int .i64 ((m : Int) + 1 + 1 + 1 + 1 + 1 + 1 + 1)] X fun e w' => e = .returned (.int .i64 (p : Int)) ∧ Below X.heap.size X w') := fun X hXX => by
        have hh := (hX X hXX).1.t
        simp only [mkTL_len] at hh
        have := heldStringS_lvk X (.slice r.ta x.ts.length r.tc) x.ts.length (m + 7) (by omega) (by omega) f3 hh
        rw [show (((m + 7 : Nat)) : Int) = (m : Int) + 1 + 1 + 1 + 1 + 1 + 1 + 1 from by omega, hp.out] at this
        exact this
      have FIN : Hid (l = (A ++ [(x, r)]) ++ B ∧ (A ++ [(x, r)]).length = k + 1 ∧ nxts c0 (A ++ [(x, r)]) = p + 1) := by
        have ed := hd.out
        have em := hm.out
        have ep := hp.out
        obtain ⟨ec, ek⟩ := HCA.out
        refine ⟨by rw [HAB.out]; simp, by simp [ek], ?_⟩
        rw [nxts_app, ec]; simp only [nxts, nxt]; omega
      have HT1 : Hid (∀ w, Calls Tryz.prog 126 #[.int .i64 (c : Int)] w fun e w' => e = .returned (.string (mkT c)) ∧ Below w.heap.size w w') := markText_any c (by omega) (by omega)
      have gk : (k : Int) < n := by omega
      have gk0 : (0 : Int) ≤ k := by omega
      have q1 := (HC.out wr HB.out).1
      clear hX e2 hes hAB hc hk hb HAB HST HCA
      generalize mkT c = t1 at *
      have x1 := cell_regrown q1
      clear q1
      have cE : ∀ d os, Calls Tryz.prog 126 #[.int .i64 (c : Int)] (grow (redrawn wr d) os) fun e w'' => e = .returned (.string t1) ∧ ∃ p : Regrown, w'' = grow (redrawn wr p.d) p.os := fun d os => Calls.regrown_of (HT1.out _)
      go_wp2_with fail
      refine wp_region_quiet_below (by kernel_rfl) (by kernel_rfl) ?_
      repeat (go_big_quiet_step ((go_at_call 126; exact cE _ _)))
      refine wpQuiet_nil ?_
      intro w3 hw3
      have HB3 : Hid (Below w.heap.size w w3) := by
        obtain ⟨⟨d, os⟩, rfl⟩ := hw3
        exact HB.out.trans ((below_regrown wr d os).mono HB.out.size)
      clear x1 cE hw3 HB
      have e1 : IntKind.i64.wrap ((c : Int) + 1) = (c : Int) + 1 := by unfold IntKind.wrap; simp [IntKind.signed, IntKind.bits]; omega
      have e2 : IntKind.i64.wrap ((c : Int) + 1 + 1) = (c : Int) + 1 + 1 := by unfold IntKind.wrap; simp [IntKind.signed, IntKind.bits]; omega
      obtain ⟨_, z1, z2, _⟩ := HC.out w3 HB3.out
      go_wp2_with fail
      refine (CH.out _ HB3.out).mono ?_
      rintro e w4 ⟨rfl, hb4⟩
      have HB4 : Hid (Below w.heap.size w w4) := HB3.out.trans (hb4.mono HB3.out.size)
      clear hb4 HB3 z1 z2 e1 e2 CH
      obtain ⟨_, _, _, z3, _⟩ := HC.out w4 HB4.out
      have gd : ¬ (d : Int) < 0 := by omega
      go_wp2_with fail
      refine (CB.out _ HB4.out).mono ?_
      rintro e w5 ⟨rfl, hb5⟩
      have HB5 : Hid (Below w.heap.size w w5) := HB4.out.trans (hb5.mono HB4.out.size)
      clear hb5 HB4 z3 CB gd
      obtain ⟨_, _, _, _, y4, y5, y6, y7, y8, y9, y10, y11, _⟩ := HC.out w5 HB5.out
      have gm : ¬ (m : Int) < 0 := by omega
      unfold bq at y9 y10
      obtain ⟨b5, hb5⟩ : ∃ b, (((m : Int) + 1 + 1 + 1 + 1 + 1) % 3 == 0) = b := ⟨_, rfl⟩
      obtain ⟨b6, hb6⟩ : ∃ b, (((m : Int) + 1 + 1 + 1 + 1 + 1 + 1) % 3 == 0) = b := ⟨_, rfl⟩
      rw [hb5] at y9
      rw [hb6] at y10
      have s1 : IntKind.i64.wrap ((m : Int) + 1) = (m : Int) + 1 := by unfold IntKind.wrap; simp [IntKind.signed, IntKind.bits]; omega
      have s2 : IntKind.i64.wrap ((m : Int) + 1 + 1) = (m : Int) + 1 + 1 := by unfold IntKind.wrap; simp [IntKind.signed, IntKind.bits]; omega
      have s3 : IntKind.i64.wrap ((m : Int) + 1 + 1 + 1) = (m : Int) + 1 + 1 + 1 := by unfold IntKind.wrap; simp [IntKind.signed, IntKind.bits]; omega
      have s4 : IntKind.i64.wrap ((m : Int) + 1 + 1 + 1 + 1) = (m : Int) + 1 + 1 + 1 + 1 := by unfold IntKind.wrap; simp [IntKind.signed, IntKind.bits]; omega
      have s5 : IntKind.i64.wrap ((m : Int) + 1 + 1 + 1 + 1 + 1) = (m : Int) + 1 + 1 + 1 + 1 + 1 := by unfold IntKind.wrap; simp [IntKind.signed, IntKind.bits]; omega
      have s6 : IntKind.i64.wrap ((m : Int) + 1 + 1 + 1 + 1 + 1 + 1) = (m : Int) + 1 + 1 + 1 + 1 + 1 + 1 := by unfold IntKind.wrap; simp [IntKind.signed, IntKind.bits]; omega
      have s7 : IntKind.i64.wrap ((m : Int) + 1 + 1 + 1 + 1 + 1 + 1 + 1) = (m : Int) + 1 + 1 + 1 + 1 + 1 + 1 + 1 := by unfold IntKind.wrap; simp [IntKind.signed, IntKind.bits]; omega
      go_wp2_with fail
      refine (CS.out _ HB5.out).mono ?_
      rintro e w6 ⟨rfl, hb6'⟩
      have HB6 : Hid (Below w.heap.size w w6) := HB5.out.trans (hb6'.mono HB5.out.size)
      clear hb6' HB5 y4 y5 y6 y7 y8 y9 y10 y11 s1 s2 s3 s4 s5 s6 s7 gm CS
      obtain ⟨_, _, _, _, _, _, _, _, _, _, _, _, u12⟩ := HC.out w6 HB6.out
      have gp : ¬ (p : Int) < 0 := by omega
      have t1 : IntKind.i64.wrap ((p : Int) + 1) = (p : Int) + 1 := by unfold IntKind.wrap; simp [IntKind.signed, IntKind.bits]; omega
      clear HC
      go_wp2_with fail
      go_roundw
      case rel => exact ⟨A ++ [(x, r)], B, FIN.out.1, by rw [FIN.out.2.1]; go_num, by rw [FIN.out.2.2]; go_num, HB6.out⟩
      case measure => simp [intOf]; omega
    | nil =>
      simp only [List.length_nil] at hlen
      have e : k = n := by omega
      clear hlen
      subst e
      simp only [List.append_nil] at hAB
      subst hAB
      have HE : Hid (c = nxts c0 l) := hc.symm
      clear hc HCA HST hk hcle hcge hb
      go_wp2_with fail
      go_ret
      exact ⟨congrArg (fun z : Nat => Ending.returned (.int .i64 (z : Int))) HE.out, HB.out⟩
end Go.Proofs.YtdooopkpnanekaaGreatDoor
/-
  A store of one's own: marked, held, compared.
-/
namespace Go.Proofs.YtdooopkpnanekaaGreatDoor
open Go.ChangeShapes Go.WideShapes Go.ChangeAt Go.RowKit Go.Sort
set_option maxHeartbeats 1000000 in
theorem markES_nil (w : World) (a : Option Addr) (c k : Nat) :
    Calls Tryz.prog 62 #[.slice a 0 c, .int .i64 (k : Int)] w fun e w' => e = .returned (.int .i64 (k : Int)) ∧ Below w.heap.size w w' := by
  go_enter Tryz.func62, Tryz.ntmps62
  go_wp2_with fail
  go_loop [1, 5] (fun x i => x = .int .i64 (k : Int) ∧ i = .int .i64 0) (fun _ _ => 0)
  case atStart => exact ⟨rfl, rfl⟩
  case round =>
    obtain ⟨rfl, rfl⟩ := hrel
    go_wp2_with fail
    go_ret
    exact ⟨rfl, Below.refl _ _⟩
set_option maxHeartbeats 1000000 in
theorem heldES_nil (w : World) (a : Option Addr) (c k : Nat) :
    Calls Tryz.prog 127 #[.slice a 0 c, .int .i64 (k : Int)] w fun e w' => e = .returned (.int .i64 (k : Int)) ∧ Below w.heap.size w w' := by
  go_enter Tryz.func127, Tryz.ntmps127
  go_wp2_with fail
  go_loop [1, 5] (fun x i => x = .int .i64 (k : Int) ∧ i = .int .i64 0) (fun _ _ => 0)
  case atStart => exact ⟨rfl, rfl⟩
  case round =>
    obtain ⟨rfl, rfl⟩ := hrel
    go_wp2_with fail
    go_ret
    exact ⟨rfl, Below.refl _ _⟩
theorem fp_mkEs (v : Value) (k : Nat) (l : List (Ent × EntR)) : fp v (mkEs k l) = fp v l := by unfold fp; rw [foot_mkEs]
/-- The lists of a store fit what the laws take. -/
structure FitL (l : List (Ent × EntR)) : Prop where
  n : l.length ≤ 1048576
  f : ∀ q ∈ l, EntFit q.1
theorem markES_v (w : World) (base : Nat) (v : Value) (c0 : Nat) (l : List (Ent × EntR)) (hf : FitL l) (h : EntsLV w base v l) (hbs : base ≤ w.heap.size) (hc0 : 1 ≤ c0) (hc1 : c0 ≤ 10000000000000) :
    Calls Tryz.prog 62 #[v, .int .i64 (c0 : Int)] w fun e w' => e = .returned (.int .i64 (nxts c0 l : Int)) ∧ EntsLV w' base v (mkEs c0 l) ∧ Out (fp v l) w w' ∧ Below base w w' := by
  rcases h.form with ⟨rfl, rfl⟩ | ⟨g, c, rfl, _⟩
  · exact (markES_nil w none 0 c0).mono fun _ _ ⟨h1, h2⟩ => ⟨h1, h.below h2, .below h2, h2.mono hbs⟩
  · exact markES_o w base g c c0 l hf.n hf.f h hbs hc0 hc1
theorem heldES_v (w : World) (base : Nat) (v : Value) (c0 : Nat) (l : List (Ent × EntR)) (hf : FitL l) (h : EntsLV w base v (mkEs c0 l)) (hc0 : 1 ≤ c0) (hc1 : c0 ≤ 10000000000000) :
    Calls Tryz.prog 127 #[v, .int .i64 (c0 : Int)] w fun e w' => e = .returned (.int .i64 (nxts c0 l : Int)) ∧ Below w.heap.size w w' := by
  rcases h.form with ⟨rfl, h1⟩ | ⟨g, c, rfl, _⟩
  · have e : l = [] := by have := congrArg List.length h1; rw [mkEs_len] at this; exact List.eq_nil_of_length_eq_zero this
    subst e
    exact heldES_nil w none 0 c0
  · rw [mkEs_len] at h ⊢
    exact heldES_o w base g c c0 l hf.n hf.f h hc0 hc1
theorem FitL.le {l : List (Ent × EntR)} (h : FitL l) {c : Nat} : nxts c l ≤ c + l.length * 4194314 := nxts_le c l h.f
def nSto (l1 l2 : List (Ent × EntR)) : Nat := nxts (nxts 1 l1) l2
theorem nSto_le {l1 l2 : List (Ent × EntR)} (h1 : FitL l1) (h2 : FitL l2) : nSto l1 l2 ≤ 10000000000000 := by
  have a := h1.le (c := 1)
  have b := h2.le (c := nxts 1 l1)
  have := h1.n
  have := h2.n
  unfold nSto
  omega
theorem nSto_ge (l1 l2 : List (Ent × EntR)) : 1 ≤ nSto l1 l2 := by
  have a := nxts_ge 1 l1
  have b := nxts_ge (nxts 1 l1) l2
  unfold nSto
  omega
/-- A store all over marked. -/
def StoHeld (w : World) (base : Nat) (v1 v2 : Value) (l1 l2 : List (Ent × EntR)) : Prop := StoLV w base v1 v2 (mkEs 1 l1) (mkEs (nxts 1 l1) l2)
theorem StoHeld.below {w w' : World} {base : Nat} {v1 v2 : Value} {l1 l2 : List (Ent × EntR)} (h : StoHeld w base v1 v2 l1 l2) (hb : Below w.heap.size w w') : StoHeld w' base v1 v2 l1 l2 := StoLV.below h hb
set_option maxHeartbeats 4000000 in
theorem markSto_o (w : World) (base : Nat) (bu gu : Int) (a1 a2 : Option Addr) (k1 k2 n1 n2 : Nat) (l1 l2 : List (Ent × EntR)) (f1 : FitL l1) (f2 : FitL l2) (hbs : base ≤ w.heap.size) (h : StoLV w base (.slice a1 n1 k1) (.slice a2 n2 k2) l1 l2) :
    Calls Tryz.prog 14 #[.agg #[.int .i64 bu, .int .i64 gu, .slice a1 n1 k1, .slice a2 n2 k2], .int .i64 1] w fun e w' => e = .returned (.int .i64 (nSto l1 l2 : Int)) ∧ StoHeld w' base (.slice a1 n1 k1) (.slice a2 n2 k2) l1 l2 ∧ Out (fp (.slice a1 n1 k1) l1 ++ fp (.slice a2 n2 k2) l2) w w' ∧ Below base w w' := by
  obtain ⟨W, hW⟩ : ∃ W, W = w.alloc (.cells #[.int .i64 bu, .int .i64 gu, .slice a1 n1 k1, .slice a2 n2 k2] 28) := ⟨_, rfl⟩
  have HW : Hid (W = w.alloc (.cells #[.int .i64 bu, .int .i64 gu, .slice a1 n1 k1, .slice a2 n2 k2] 28)) := hW
  have bW : Below w.heap.size w W := by rw [hW]; exact (Below.refl _ _).alloc (Nat.le_refl _) _
  have sW : S4 W w.heap.size (.int .i64 bu) (.int .i64 gu) (.slice a1 n1 k1) (.slice a2 n2 k2) := by rw [hW]; exact S4.new w _ _ _ _ _
  have hH := h.below bW
  have C1 : Hid (Calls Tryz.prog 62 #[.slice a1 n1 k1, .int .i64 1] W fun e w' => e = .returned (.int .i64 (nxts 1 l1 : Int)) ∧ w'.cell? ⟨w.heap.size, 3, none⟩ = some (.slice a2 n2 k2) ∧ StoLV w' base (.slice a1 n1 k1) (.slice a2 n2 k2) (mkEs 1 l1) l2 ∧ Out (fp (.slice a1 n1 k1) l1 ++ fp (.slice a2 n2 k2) l2) w w' ∧ Below base w w') := by
    have := markES_v W base (.slice a1 n1 k1) 1 l1 f1 hH.t (by have := bW.size; omega) (by omega) (by omega)
    refine this.mono ?_
    rintro e w' ⟨h1, h2, h3, h4⟩
    refine ⟨h1, ?_, ⟨h2, hH.k.out h3 (fun b hb e => hH.nd b e hb), by rw [fp_mkEs]; exact hH.nd⟩, (Out.below bW).trans (h3.mono fun b hb => List.mem_append_left _ hb), (bW.mono hbs).trans h4⟩
    rw [h3.cell w.heap.size 3 sW.lt (fun e => by have := h.t.lt e; omega)]
    exact sW.c3
  have HC2 : Hid (∀ X, StoLV X base (.slice a1 n1 k1) (.slice a2 n2 k2) (mkEs 1 l1) l2 → Out (fp (.slice a1 n1 k1) l1 ++ fp (.slice a2 n2 k2) l2) w X → Below base w X → Calls Tryz.prog 62 #[.slice a2 n2 k2, .int .i64 (nxts 1 l1 : Int)] X fun e w' => e = .returned (.int .i64 (nSto l1 l2 : Int)) ∧ StoHeld w' base (.slice a1 n1 k1) (.slice a2 n2 k2) l1 l2 ∧ Out (fp (.slice a1 n1 k1) l1 ++ fp (.slice a2 n2 k2) l2) w w' ∧ Below base w w') := fun X hX ho hb => by
    have q1 := f1.le (c := 1)
    have := f1.n
    have := nxts_ge 1 l1
    have := markES_v X base (.slice a2 n2 k2) (nxts 1 l1) l2 f2 hX.k (by have := hb.size; omega) (by omega) (by omega)
    refine this.mono ?_
    rintro e w' ⟨h1, h2, h3, h4⟩
    refine ⟨h1, ⟨hX.t.out h3 (fun b hb e => hX.nd b hb e), h2, fun b h5 h6 => ?_⟩, ho.trans (h3.mono fun b hb => List.mem_append_right _ hb), hb.trans h4⟩
    rw [fp_mkEs] at h6
    exact hX.nd b h5 h6
  clear hW bW sW hH h f1 f2 hbs
  generalize (nxts 1 l1 : Int) = q1 at *
  generalize (nSto l1 l2 : Int) = q2 at *
  go_enter Tryz.func14, Tryz.ntmps14
  go_wp2_with fail
  rw [← HW.out]
  refine C1.out.mono ?_
  rintro e w1 ⟨rfl, x3, h2, h3, h4⟩
  have CC := HC2.out w1 h2 h3 h4
  clear C1 HC2 HW h2 h3 h4
  go_wp2_with fail
  refine CC.mono ?_
  rintro e w2 ⟨rfl, h5⟩
  have H5 : Hid _ := h5
  clear CC x3 h5
  go_wp2_with fail
  go_ret
  exact ⟨rfl, H5.out⟩
set_option maxHeartbeats 4000000 in
theorem heldSto_o (w : World) (base : Nat) (bu gu : Int) (a1 a2 : Option Addr) (k1 k2 n1 n2 : Nat) (l1 l2 : List (Ent × EntR)) (f1 : FitL l1) (f2 : FitL l2) (h : StoHeld w base (.slice a1 n1 k1) (.slice a2 n2 k2) l1 l2) :
    Calls Tryz.prog 63 #[.agg #[.int .i64 bu, .int .i64 gu, .slice a1 n1 k1, .slice a2 n2 k2], .int .i64 1] w fun e w' => e = .returned (.int .i64 (nSto l1 l2 : Int)) ∧ Below w.heap.size w w' := by
  obtain ⟨W, hW⟩ : ∃ W, W = w.alloc (.cells #[.int .i64 bu, .int .i64 gu, .slice a1 n1 k1, .slice a2 n2 k2] 28) := ⟨_, rfl⟩
  have HW : Hid (W = w.alloc (.cells #[.int .i64 bu, .int .i64 gu, .slice a1 n1 k1, .slice a2 n2 k2] 28)) := hW
  have bW : Below w.heap.size w W := by rw [hW]; exact (Below.refl _ _).alloc (Nat.le_refl _) _
  have sW : S4 W w.heap.size (.int .i64 bu) (.int .i64 gu) (.slice a1 n1 k1) (.slice a2 n2 k2) := by rw [hW]; exact S4.new w _ _ _ _ _
  have hH := h.below bW
  have C1 : Hid (Calls Tryz.prog 127 #[.slice a1 n1 k1, .int .i64 1] W fun e w' => e = .returned (.int .i64 (nxts 1 l1 : Int)) ∧ w'.cell? ⟨w.heap.size, 3, none⟩ = some (.slice a2 n2 k2) ∧ Below w.heap.size w w') := by
    refine (heldES_v W base (.slice a1 n1 k1) 1 l1 f1 hH.t (by omega) (by omega)).mono ?_
    rintro e w' ⟨h1, h2⟩
    exact ⟨h1, (sW.keep h2).c3, bW.trans (h2.mono bW.size)⟩
  have HC2 : Hid (∀ X, Below w.heap.size w X → Calls Tryz.prog 127 #[.slice a2 n2 k2, .int .i64 (nxts 1 l1 : Int)] X fun e w' => e = .returned (.int .i64 (nSto l1 l2 : Int)) ∧ Below w.heap.size w w') := fun X hb => by
    have q1 := f1.le (c := 1)
    have := f1.n
    have := nxts_ge 1 l1
    refine (heldES_v X base (.slice a2 n2 k2) (nxts 1 l1) l2 f2 (h.below hb).k (by omega) (by omega)).mono ?_
    rintro e w' ⟨h1, h2⟩
    exact ⟨h1, hb.trans (h2.mono hb.size)⟩
  have g1 : ¬ (nxts 1 l1 : Int) < 0 := by omega
  have g2 : ¬ (nSto l1 l2 : Int) < 0 := by omega
  clear hW bW sW hH h f1 f2
  generalize (nxts 1 l1 : Int) = q1 at *
  generalize (nSto l1 l2 : Int) = q2 at *
  go_enter Tryz.func63, Tryz.ntmps63
  go_wp2_with fail
  rw [← HW.out]
  refine C1.out.mono ?_
  rintro e w1 ⟨rfl, x3, h4⟩
  have CC := HC2.out w1 h4
  clear C1 HC2 HW h4
  go_wp2_with fail
  refine CC.mono ?_
  rintro e w2 ⟨rfl, h5⟩
  have H5 : Hid _ := h5
  clear CC x3 h5
  go_wp2_with fail
  go_ret
  exact ⟨rfl, H5.out⟩
theorem slice_len {w : World} {base n k : Nat} {a : Option Addr} {l : List (Ent × EntR)} (h : EntsLV w base (.slice a n k) l) : n = l.length ∧ EntsIn w a l := by
  obtain ⟨a', c, e, _, hi⟩ := h.in
  simp only [Value.slice.injEq] at e
  obtain ⟨rfl, rfl, rfl⟩ := e
  exact ⟨rfl, hi⟩
theorem eqSto_lv (w : World) (bu gu : Int) (a1 a2 b1 b2 : Option Addr) (k1 k2 n1 n2 j1 j2 m1 m2 ba bb : Nat) (l1 l2 p1 p2 : List (Ent × EntR)) (f1 : FitL l1) (f2 : FitL l2) (h : StoLV w ba (.slice a1 n1 k1) (.slice a2 n2 k2) l1 l2) (k : StoLV w bb (.slice b1 m1 j1) (.slice b2 m2 j2) p1 p2) (e1 : l1.map Prod.fst = p1.map Prod.fst) (e2 : l2.map Prod.fst = p2.map Prod.fst) :
    Calls Tryz.prog 13 #[.agg #[.int .i64 bu, .int .i64 gu, .slice a1 n1 k1, .slice a2 n2 k2], .agg #[.int .i64 bu, .int .i64 gu, .slice b1 m1 j1, .slice b2 m2 j2]] w fun r w' => r = .returned (.bool true) ∧ Below w.heap.size w w' := by
  obtain ⟨rfl, i1⟩ := slice_len h.t
  obtain ⟨rfl, i2⟩ := slice_len h.k
  obtain ⟨r1, i3⟩ := slice_len k.t
  obtain ⟨r2, i4⟩ := slice_len k.k
  have q1 : m1 = l1.length := by rw [r1]; have := congrArg List.length e1; simpa using this.symm
  have q2 : m2 = l2.length := by rw [r2]; have := congrArg List.length e2; simpa using this.symm
  rw [q1, q2]
  exact eqStore_same w bu gu a1 b1 a2 b2 k1 j1 k2 j2 l1 p1 l2 p2 f1.n f2.n f1.f f2.f e1 e2 i1 i3 i2 i4
end Go.Proofs.YtdooopkpnanekaaGreatDoor
/-
  Five cells that may be written.
-/
namespace Go.Proofs.YtdooopkpnanekaaGreatDoor
open Go.ChangeShapes Go.WideShapes Go.ChangeAt Go.RowKit
structure S5 (w : World) (b : Nat) (v0 v1 v2 v3 v4 : Value) : Prop where
  c0 : w.cell? ⟨b, 0, none⟩ = some v0
  c1 : w.cell? ⟨b, 1, none⟩ = some v1
  c2 : w.cell? ⟨b, 2, none⟩ = some v2
  c3 : w.cell? ⟨b, 3, none⟩ = some v3
  c4 : w.cell? ⟨b, 4, none⟩ = some v4
  fr : ∀ o, w.frozen? ⟨b, o, none⟩ = false
  lt : b < w.heap.size
section
variable {w w' : World} {b : Nat} {v0 v1 v2 v3 v4 : Value}
theorem S5.keep (k : S5 w b v0 v1 v2 v3 v4) (hb : Below w.heap.size w w') : S5 w' b v0 v1 v2 v3 v4 :=
  ⟨by rw [hb.cell (p := ⟨b, 0, none⟩) k.lt]; exact k.c0, by rw [hb.cell (p := ⟨b, 1, none⟩) k.lt]; exact k.c1, by rw [hb.cell (p := ⟨b, 2, none⟩) k.lt]; exact k.c2, by rw [hb.cell (p := ⟨b, 3, none⟩) k.lt]; exact k.c3, by rw [hb.cell (p := ⟨b, 4, none⟩) k.lt]; exact k.c4, fun o => by rw [hb.frozen (p := ⟨b, o, none⟩) k.lt]; exact k.fr o, Nat.lt_of_lt_of_le k.lt hb.size⟩
theorem S5.new (w : World) (v0 v1 v2 v3 v4 : Value) (t : TypeId) : S5 (w.alloc (.cells #[v0, v1, v2, v3, v4] t)) w.heap.size v0 v1 v2 v3 v4 := ⟨by simp, by simp, by simp, by simp, by simp, fun o => by simp, by simp⟩
theorem S5.off (k : S5 w b v0 v1 v2 v3 v4) {B i : Nat} {x : Value} (h : B ≠ b) : S5 (w.setCell ⟨B, i, none⟩ x) b v0 v1 v2 v3 v4 := by
  have ne : ∀ o : Nat, (⟨B, i, none⟩ : Addr) ≠ ⟨b, o, none⟩ := fun o q => h (congrArg Addr.block q)
  exact ⟨by rw [World.cell?_setCell_other _ _ _ _ (ne _)]; exact k.c0, by rw [World.cell?_setCell_other _ _ _ _ (ne _)]; exact k.c1, by rw [World.cell?_setCell_other _ _ _ _ (ne _)]; exact k.c2, by rw [World.cell?_setCell_other _ _ _ _ (ne _)]; exact k.c3, by rw [World.cell?_setCell_other _ _ _ _ (ne _)]; exact k.c4, fun o => by rw [World.frozen?_setCell]; exact k.fr o, by simpa using k.lt⟩
theorem S5.set0 (k : S5 w b v0 v1 v2 v3 v4) (x : Value) : S5 (w.setCell ⟨b, 0, none⟩ x) b x v1 v2 v3 v4 :=
  ⟨World.cell?_setCell_same _ _ _ k.c0, by rw [World.cell?_setCell_other _ _ _ _ (by intro q; have := congrArg Addr.off q; simp at this)]; exact k.c1, by rw [World.cell?_setCell_other _ _ _ _ (by intro q; have := congrArg Addr.off q; simp at this)]; exact k.c2, by rw [World.cell?_setCell_other _ _ _ _ (by intro q; have := congrArg Addr.off q; simp at this)]; exact k.c3, by rw [World.cell?_setCell_other _ _ _ _ (by intro q; have := congrArg Addr.off q; simp at this)]; exact k.c4, fun o => by rw [World.frozen?_setCell]; exact k.fr o, by simpa using k.lt⟩
theorem S5.set1 (k : S5 w b v0 v1 v2 v3 v4) (x : Value) : S5 (w.setCell ⟨b, 1, none⟩ x) b v0 x v2 v3 v4 :=
  ⟨by rw [World.cell?_setCell_other _ _ _ _ (by intro q; have := congrArg Addr.off q; simp at this)]; exact k.c0, World.cell?_setCell_same _ _ _ k.c1, by rw [World.cell?_setCell_other _ _ _ _ (by intro q; have := congrArg Addr.off q; simp at this)]; exact k.c2, by rw [World.cell?_setCell_other _ _ _ _ (by intro q; have := congrArg Addr.off q; simp at this)]; exact k.c3, by rw [World.cell?_setCell_other _ _ _ _ (by intro q; have := congrArg Addr.off q; simp at this)]; exact k.c4, fun o => by rw [World.frozen?_setCell]; exact k.fr o, by simpa using k.lt⟩
theorem S5.set2 (k : S5 w b v0 v1 v2 v3 v4) (x : Value) : S5 (w.setCell ⟨b, 2, none⟩ x) b v0 v1 x v3 v4 :=
  ⟨by rw [World.cell?_setCell_other _ _ _ _ (by intro q; have := congrArg Addr.off q; simp at this)]; exact k.c0, by rw [World.cell?_setCell_other _ _ _ _ (by intro q; have := congrArg Addr.off q; simp at this)]; exact k.c1, World.cell?_setCell_same _ _ _ k.c2, by rw [World.cell?_setCell_other _ _ _ _ (by intro q; have := congrArg Addr.off q; simp at this)]; exact k.c3, by rw [World.cell?_setCell_other _ _ _ _ (by intro q; have := congrArg Addr.off q; simp at this)]; exact k.c4, fun o => by rw [World.frozen?_setCell]; exact k.fr o, by simpa using k.lt⟩
theorem S5.set3 (k : S5 w b v0 v1 v2 v3 v4) (x : Value) : S5 (w.setCell ⟨b, 3, none⟩ x) b v0 v1 v2 x v4 :=
  ⟨by rw [World.cell?_setCell_other _ _ _ _ (by intro q; have := congrArg Addr.off q; simp at this)]; exact k.c0, by rw [World.cell?_setCell_other _ _ _ _ (by intro q; have := congrArg Addr.off q; simp at this)]; exact k.c1, by rw [World.cell?_setCell_other _ _ _ _ (by intro q; have := congrArg Addr.off q; simp at this)]; exact k.c2, World.cell?_setCell_same _ _ _ k.c3, by rw [World.cell?_setCell_other _ _ _ _ (by intro q; have := congrArg Addr.off q; simp at this)]; exact k.c4, fun o => by rw [World.frozen?_setCell]; exact k.fr o, by simpa using k.lt⟩
theorem S5.set4 (k : S5 w b v0 v1 v2 v3 v4) (x : Value) : S5 (w.setCell ⟨b, 4, none⟩ x) b v0 v1 v2 v3 x :=
  ⟨by rw [World.cell?_setCell_other _ _ _ _ (by intro q; have := congrArg Addr.off q; simp at this)]; exact k.c0, by rw [World.cell?_setCell_other _ _ _ _ (by intro q; have := congrArg Addr.off q; simp at this)]; exact k.c1, by rw [World.cell?_setCell_other _ _ _ _ (by intro q; have := congrArg Addr.off q; simp at this)]; exact k.c2, by rw [World.cell?_setCell_other _ _ _ _ (by intro q; have := congrArg Addr.off q; simp at this)]; exact k.c3, World.cell?_setCell_same _ _ _ k.c4, fun o => by rw [World.frozen?_setCell]; exact k.fr o, by simpa using k.lt⟩
end
end Go.Proofs.YtdooopkpnanekaaGreatDoor
/-
  Answers that bear a store: compared, marked, held.
-/
namespace Go.Proofs.YtdooopkpnanekaaGreatDoor
open Go.ChangeShapes Go.WideShapes Go.ChangeAt Go.RowKit Go.Sort
/-- Where the lists of a store lie that is handed back. -/
structure SR where
  a1 : Option Addr
  k1 : Nat
  n1 : Nat
  a2 : Option Addr
  k2 : Nat
  n2 : Nat
def SR.t (r : SR) : Value := .slice r.a1 r.n1 r.k1
def SR.k (r : SR) : Value := .slice r.a2 r.n2 r.k2
/-- It can be read. -/
def RIn (W : World) (r : SR) (L1 L2 : List Ent) : Prop := ∃ m1 m2, m1.map Prod.fst = L1 ∧ m2.map Prod.fst = L2 ∧ r.n1 = m1.length ∧ r.n2 = m2.length ∧ EntsIn W r.a1 m1 ∧ EntsIn W r.a2 m2
/-- It is its holder's own, in blocks from base to hi. -/
def RSto (W : World) (base hi : Nat) (r : SR) (L1 L2 : List Ent) : Prop := ∃ m1 m2, m1.map Prod.fst = L1 ∧ m2.map Prod.fst = L2 ∧ StoLV W base r.t r.k m1 m2 ∧ (∀ b ∈ fp r.t m1 ++ fp r.k m2, b < hi)
def RHeld (W : World) (r : SR) (L1 L2 : List Ent) : Prop := ∃ m1 m2 base, m1.map Prod.fst = L1 ∧ m2.map Prod.fst = L2 ∧ StoHeld W base r.t r.k m1 m2
theorem RIn.keep {W W' : World} {r : SR} {L1 L2 : List Ent} (h : RIn W r L1 L2) (hb : Below W.heap.size W W') : RIn W' r L1 L2 := by
  obtain ⟨m1, m2, e1, e2, n1, n2, h1, h2⟩ := h
  exact ⟨m1, m2, e1, e2, n1, n2, h1.keep hb, h2.keep hb⟩
theorem RSto.below {W W' : World} {base hi : Nat} {r : SR} {L1 L2 : List Ent} (h : RSto W base hi r L1 L2) (hb : Below W.heap.size W W') : RSto W' base hi r L1 L2 := by
  obtain ⟨m1, m2, e1, e2, h1, h2⟩ := h
  exact ⟨m1, m2, e1, e2, h1.below hb, h2⟩
theorem RSto.above {W W' : World} {h0 base hi : Nat} {r : SR} {L1 L2 : List Ent} (h : RSto W base hi r L1 L2) (ha : Above h0 W W') (hb : h0 ≤ base) : RSto W' base hi r L1 L2 := by
  obtain ⟨m1, m2, e1, e2, h1, h2⟩ := h
  exact ⟨m1, m2, e1, e2, h1.above ha hb, h2⟩
theorem RHeld.below {W W' : World} {r : SR} {L1 L2 : List Ent} (h : RHeld W r L1 L2) (hb : Below W.heap.size W W') : RHeld W' r L1 L2 := by
  obtain ⟨m1, m2, base, e1, e2, h1⟩ := h
  exact ⟨m1, m2, base, e1, e2, h1.below hb⟩
theorem RSto.in {W : World} {base hi : Nat} {r : SR} {L1 L2 : List Ent} (h : RSto W base hi r L1 L2) : RIn W r L1 L2 := by
  obtain ⟨m1, m2, e1, e2, h1, _⟩ := h
  obtain ⟨q1, i1⟩ := slice_len h1.t
  obtain ⟨q2, i2⟩ := slice_len h1.k
  exact ⟨m1, m2, e1, e2, q1, q2, i1, i2⟩
theorem RSto.mk {W : World} {base : Nat} {r : SR} {L1 L2 : List Ent} {m1 m2 : List (Ent × EntR)} (e1 : m1.map Prod.fst = L1) (e2 : m2.map Prod.fst = L2) (h : StoLV W base r.t r.k m1 m2) : RSto W base W.heap.size r L1 L2 :=
  ⟨m1, m2, e1, e2, h, fun b hb => by
    rcases List.mem_append.1 hb with hb | hb
    · exact h.t.lt hb
    · exact h.k.lt hb⟩
/-- The entries fit what the laws take. -/
structure FitE (L : List Ent) : Prop where
  n : L.length ≤ 1048576
  f : ∀ x ∈ L, EntFit x
theorem FitE.l {L : List Ent} (h : FitE L) {m : List (Ent × EntR)} (e : m.map Prod.fst = L) : FitL m :=
  ⟨by have := h.n; rw [← e] at this; simpa using this, fun q hq => h.f q.1 (by rw [← e]; exact List.mem_map_of_mem hq)⟩
def nxtE : Nat → List Ent → Nat
  | k, [] => k
  | k, x :: l => nxtE (k + nxt x) l
theorem nxts_E (k : Nat) (l : List (Ent × EntR)) : nxts k l = nxtE k (l.map Prod.fst) := by
  induction l generalizing k with
  | nil => rfl
  | cons q l ih => simp [nxts, nxtE, ih]
def nStoE (L1 L2 : List Ent) : Nat := nxtE (nxtE 1 L1) L2
theorem nSto_E {l1 l2 : List (Ent × EntR)} {L1 L2 : List Ent} (e1 : l1.map Prod.fst = L1) (e2 : l2.map Prod.fst = L2) : nSto l1 l2 = nStoE L1 L2 := by
  unfold nSto nStoE
  rw [nxts_E, nxts_E, e1, e2]
theorem eqSto_r (w : World) (bu gu : Int) (r s : SR) (L1 L2 : List Ent) (f1 : FitE L1) (f2 : FitE L2) (h : RIn w r L1 L2) (k : RIn w s L1 L2) :
    Calls Tryz.prog 13 #[.agg #[.int .i64 bu, .int .i64 gu, .slice r.a1 r.n1 r.k1, .slice r.a2 r.n2 r.k2], .agg #[.int .i64 bu, .int .i64 gu, .slice s.a1 s.n1 s.k1, .slice s.a2 s.n2 s.k2]] w fun e w' => e = .returned (.bool true) ∧ Below w.heap.size w w' := by
  obtain ⟨m1, m2, e1, e2, n1, n2, h1, h2⟩ := h
  obtain ⟨p1, p2, e3, e4, n3, n4, h3, h4⟩ := k
  have q1 : p1.length = m1.length := by have := congrArg List.length (e3.trans e1.symm); simpa using this
  have q2 : p2.length = m2.length := by have := congrArg List.length (e4.trans e2.symm); simpa using this
  rw [n1, n2, n3, n4, q1, q2]
  exact eqStore_same w bu gu _ _ _ _ _ _ _ _ m1 p1 m2 p2 (f1.l e1).n (f2.l e2).n (f1.l e1).f (f2.l e2).f (e1.trans e3.symm) (e2.trans e4.symm) h1 h3 h2 h4
theorem markSto_r (w : World) (base hi : Nat) (bu gu : Int) (r : SR) (L1 L2 : List Ent) (f1 : FitE L1) (f2 : FitE L2) (hbs : base ≤ w.heap.size) (h : RSto w base hi r L1 L2) :
    Calls Tryz.prog 14 #[.agg #[.int .i64 bu, .int .i64 gu, .slice r.a1 r.n1 r.k1, .slice r.a2 r.n2 r.k2], .int .i64 1] w fun e w' => e = .returned (.int .i64 (nStoE L1 L2 : Int)) ∧ Below base w w' ∧ Above hi w w' ∧ RHeld w' r L1 L2 := by
  obtain ⟨m1, m2, e1, e2, h1, h2⟩ := h
  refine (markSto_o w base bu gu r.a1 r.a2 r.k1 r.k2 r.n1 r.n2 m1 m2 (f1.l e1) (f2.l e2) hbs h1).mono ?_
  rintro e w' ⟨h3, h4, h5, h6⟩
  rw [nSto_E e1 e2] at h3
  exact ⟨h3, h6, h5.above h2, ⟨m1, m2, base, e1, e2, h4⟩⟩
theorem heldSto_r (w : World) (bu gu : Int) (r : SR) (L1 L2 : List Ent) (f1 : FitE L1) (f2 : FitE L2) (h : RHeld w r L1 L2) :
    Calls Tryz.prog 63 #[.agg #[.int .i64 bu, .int .i64 gu, .slice r.a1 r.n1 r.k1, .slice r.a2 r.n2 r.k2], .int .i64 1] w fun e w' => e = .returned (.int .i64 (nStoE L1 L2 : Int)) ∧ Below w.heap.size w w' := by
  obtain ⟨m1, m2, base, e1, e2, h1⟩ := h
  have := heldSto_o w base bu gu r.a1 r.a2 r.k1 r.k2 r.n1 r.n2 m1 m2 (f1.l e1) (f2.l e2) h1
  rw [nSto_E e1 e2] at this
  exact this
theorem nStoE_le {L1 L2 : List Ent} (f1 : FitE L1) (f2 : FitE L2) : nStoE L1 L2 ≤ 10000000000000 := by
  have e1 : (L1.map fun x => ((x, ⟨none, 0, none, 0, none, 0⟩) : Ent × EntR)).map Prod.fst = L1 := by simp [Function.comp_def]
  have e2 : (L2.map fun x => ((x, ⟨none, 0, none, 0, none, 0⟩) : Ent × EntR)).map Prod.fst = L2 := by simp [Function.comp_def]
  rw [← nSto_E e1 e2]
  exact nSto_le (f1.l e1) (f2.l e2)
theorem S5.above {w w' : World} {hi b : Nat} {v0 v1 v2 v3 v4 : Value} (k : S5 w b v0 v1 v2 v3 v4) (h : Above hi w w') (hb : hi ≤ b) : S5 w' b v0 v1 v2 v3 v4 :=
  ⟨by rw [h.cell b 0 hb k.lt]; exact k.c0, by rw [h.cell b 1 hb k.lt]; exact k.c1, by rw [h.cell b 2 hb k.lt]; exact k.c2, by rw [h.cell b 3 hb k.lt]; exact k.c3, by rw [h.cell b 4 hb k.lt]; exact k.c4, fun o => by rw [h.frozen b o hb k.lt]; exact k.fr o, Nat.lt_of_lt_of_le k.lt h.size⟩
/-! ### StoreResult -/
set_option maxHeartbeats 4000000 in
theorem eqStoR_r (w : World) (c bu gu : Int) (r s : SR) (L1 L2 : List Ent) (f1 : FitE L1) (f2 : FitE L2) (h : RIn w r L1 L2) (k : RIn w s L1 L2) :
    Calls Tryz.prog 12 #[.agg #[.int .i64 c, .int .i64 bu, .int .i64 gu, .slice r.a1 r.n1 r.k1, .slice r.a2 r.n2 r.k2], .agg #[.int .i64 c, .int .i64 bu, .int .i64 gu, .slice s.a1 s.n1 s.k1, .slice s.a2 s.n2 s.k2]] w fun e w' => e = .returned (.bool true) ∧ Below w.heap.size w w' := by
  have HC : Hid (∀ X, Below w.heap.size w X → Calls Tryz.prog 13 #[.agg #[.int .i64 bu, .int .i64 gu, .slice r.a1 r.n1 r.k1, .slice r.a2 r.n2 r.k2], .agg #[.int .i64 bu, .int .i64 gu, .slice s.a1 s.n1 s.k1, .slice s.a2 s.n2 s.k2]] X fun e w' => e = .returned (.bool true) ∧ Below X.heap.size X w') := fun X hX => eqSto_r X bu gu r s L1 L2 f1 f2 (h.keep hX) (k.keep hX)
  have B0 : Hid (Below w.heap.size w ((w.alloc (.cells #[.int .i64 c, .int .i64 bu, .int .i64 gu, .slice r.a1 r.n1 r.k1, .slice r.a2 r.n2 r.k2] 30)).alloc (.cells #[.int .i64 c, .int .i64 bu, .int .i64 gu, .slice s.a1 s.n1 s.k1, .slice s.a2 s.n2 s.k2] 30))) := ((Below.refl _ _).alloc (Nat.le_refl _) _).alloc (by simp) _
  clear h k f1 f2
  go_enter Tryz.func12, Tryz.ntmps12
  go_wp2_with fail
  refine (HC.out _ B0.out).mono ?_
  rintro e w1 ⟨rfl, hb1⟩
  have B1 : Hid (Below w.heap.size w w1) := B0.out.trans (hb1.mono B0.out.size)
  clear hb1 B0 HC
  go_wp2_with fail
  go_ret
  exact ⟨rfl, B1.out⟩
set_option maxHeartbeats 4000000 in
theorem markStoR_r (w : World) (base hi : Nat) (c bu gu : Int) (r : SR) (L1 L2 : List Ent) (f1 : FitE L1) (f2 : FitE L2) (hbs : base ≤ w.heap.size) (h : RSto w base hi r L1 L2) :
    Calls Tryz.prog 15 #[.agg #[.int .i64 c, .int .i64 bu, .int .i64 gu, .slice r.a1 r.n1 r.k1, .slice r.a2 r.n2 r.k2], .int .i64 1] w fun e w' => e = .returned (.int .i64 (nStoE L1 L2 : Int)) ∧ Below base w w' ∧ Above hi w w' ∧ RHeld w' r L1 L2 := by
  have B0 : Below w.heap.size w (w.alloc (.cells #[.int .i64 c, .int .i64 bu, .int .i64 gu, .slice r.a1 r.n1 r.k1, .slice r.a2 r.n2 r.k2] 30)) := (Below.refl _ _).alloc (Nat.le_refl _) _
  have HC := markSto_r (w.alloc (.cells #[.int .i64 c, .int .i64 bu, .int .i64 gu, .slice r.a1 r.n1 r.k1, .slice r.a2 r.n2 r.k2] 30)) base hi bu gu r L1 L2 f1 f2 (by have := B0.size; omega) (h.below B0)
  have HB : Hid (Below base w (w.alloc (.cells #[.int .i64 c, .int .i64 bu, .int .i64 gu, .slice r.a1 r.n1 r.k1, .slice r.a2 r.n2 r.k2] 30)) ∧ Above hi w (w.alloc (.cells #[.int .i64 c, .int .i64 bu, .int .i64 gu, .slice r.a1 r.n1 r.k1, .slice r.a2 r.n2 r.k2] 30))) := ⟨B0.mono hbs, .below B0⟩
  clear B0 h f1 f2 hbs
  generalize (nStoE L1 L2 : Int) = q at *
  go_enter Tryz.func15, Tryz.ntmps15
  go_wp2_with fail
  refine HC.mono ?_
  rintro e w1 ⟨rfl, hb1, ha1, hh⟩
  have B1 : Hid (Below base w w1 ∧ Above hi w w1 ∧ RHeld w1 r L1 L2) := ⟨HB.out.1.trans hb1, HB.out.2.trans ha1, hh⟩
  clear hb1 ha1 hh HB HC
  go_wp2_with fail
  go_ret
  exact ⟨rfl, B1.out⟩
set_option maxHeartbeats 4000000 in
theorem heldStoR_r (w : World) (c bu gu : Int) (r : SR) (L1 L2 : List Ent) (f1 : FitE L1) (f2 : FitE L2) (h : RHeld w r L1 L2) :
    Calls Tryz.prog 16 #[.agg #[.int .i64 c, .int .i64 bu, .int .i64 gu, .slice r.a1 r.n1 r.k1, .slice r.a2 r.n2 r.k2], .int .i64 1] w fun e w' => e = .returned (.int .i64 (nStoE L1 L2 : Int)) ∧ Below w.heap.size w w' := by
  have B0 : Below w.heap.size w (w.alloc (.cells #[.int .i64 c, .int .i64 bu, .int .i64 gu, .slice r.a1 r.n1 r.k1, .slice r.a2 r.n2 r.k2] 30)) := (Below.refl _ _).alloc (Nat.le_refl _) _
  have HC := heldSto_r (w.alloc (.cells #[.int .i64 c, .int .i64 bu, .int .i64 gu, .slice r.a1 r.n1 r.k1, .slice r.a2 r.n2 r.k2] 30)) bu gu r L1 L2 f1 f2 (h.below B0)
  have HB : Hid (Below w.heap.size w (w.alloc (.cells #[.int .i64 c, .int .i64 bu, .int .i64 gu, .slice r.a1 r.n1 r.k1, .slice r.a2 r.n2 r.k2] 30))) := B0
  clear B0 h f1 f2
  have g : ¬ (nStoE L1 L2 : Int) < 0 := by omega
  generalize (nStoE L1 L2 : Int) = q at *
  go_enter Tryz.func16, Tryz.ntmps16
  go_wp2_with fail
  refine HC.mono ?_
  rintro e w1 ⟨rfl, hb1⟩
  have B1 : Hid (Below w.heap.size w w1) := HB.out.trans (hb1.mono HB.out.size)
  clear hb1 HB HC
  go_wp2_with fail
  go_ret
  exact ⟨rfl, B1.out⟩
/-- A store that is handed back, with its code. -/
structure SAns where
  c : Int
  bu : Int
  gu : Int
  t : List Ent
  k : List Ent
def StoAns (A : SAns) (base : Nat) (e : Ending) (w' : World) : Prop := ∃ r : SR, e = .returned (.agg #[.int .i64 A.c, .int .i64 A.bu, .int .i64 A.gu, .slice r.a1 r.n1 r.k1, .slice r.a2 r.n2 r.k2]) ∧ RSto w' base w'.heap.size r A.t A.k
end Go.Proofs.YtdooopkpnanekaaGreatDoor
/-
  An entry is looked for, by the program; what all that look for a key ask ahead.
-/
namespace Go.Proofs.YtdooopkpnanekaaGreatDoor
open Go.ChangeShapes Go.WideShapes Go.ChangeAt Go.RowKit Go.Sort
/-- What find answers, of handles. -/
def FindH (l : List Hdl) (key : ByteArray) (v : Value) : Prop := (∃ h, h ∈ l ∧ (l.map Hdl.x).find? (isKey key) = some h.x ∧ v = .pointer (some ⟨h.b, h.o, none⟩)) ∨ ((l.map Hdl.x).find? (isKey key) = none ∧ v = .pointer none)
set_option maxRecDepth 100000 in
set_option maxHeartbeats 8000000 in
theorem findP_any (w : World) (v1 v2 : Value) (base : Nat) (l1 l2 : List Hdl) (key : ByteArray) (h : TwoP w base v1 v2 l1 l2) (hl : l1.length + l2.length ≤ 1000000) (hth : ∀ h ∈ l1 ++ l2, HThere w h) :
    Calls Tryz.prog 103 #[.agg #[v1, v2], .string key] w fun e w' => (∃ v, e = .returned v ∧ FindH (l1 ++ l2) key v) ∧ Below w.heap.size w w' := by
  obtain ⟨a1, k1, e1, _⟩ := h.a.form
  obtain ⟨a2, k2, e2, _⟩ := h.b.form
  obtain ⟨W, hW⟩ : ∃ W, W = w.alloc (.cells #[v1, v2] 98) := ⟨_, rfl⟩
  have HW : Hid (W = w.alloc (.cells #[v1, v2] 98)) := hW
  have bW : Below w.heap.size w W := by rw [hW]; exact (Below.refl _ _).alloc (Nat.le_refl _) _
  have CA : Hid (Calls Tryz.prog 87 #[.agg #[v1, v2]] W fun e w' => (∃ v, e = .returned v ∧ OwnP w' W.heap.size v (l1 ++ l2)) ∧ Below W.heap.size W w') := shAll_any W v1 v2 base l1 l2 (h.below bW) hl
  have HT : Hid (∀ X, Below w.heap.size w X → ∀ h ∈ l1 ++ l2, X.cell? ⟨h.b, h.o, none⟩ = some (.string h.x.key)) := fun X hX h hh => (((hth h hh).keep hX).cells).1
  have HB : Hid (Below w.heap.size w W) := bW
  have hln : (l1 ++ l2).length ≤ 1000000 := by rw [List.length_append]; exact hl
  clear hW bW h hth hl
  generalize l1 ++ l2 = al at *
  subst e1
  subst e2
  go_enter Tryz.func103, Tryz.ntmps103
  go_wp2_with fail
  rw [← HW.out]
  refine CA.out.mono ?_
  rintro e w1 ⟨⟨v, rfl, ho⟩, hb1⟩
  obtain ⟨av, ac, rfl, _, hf⟩ := ho.form
  have HB1 : Hid (Below w.heap.size w w1) := HB.out.trans (hb1.mono HB.out.size)
  have HC : Hid (∀ X, Below w1.heap.size w1 X → ∀ (k : Nat) h, al[k]? = some h → ∃ g, av = some ⟨g, 0, none⟩ ∧ X.cell? ⟨g, k, none⟩ = some (.pointer (some ⟨h.b, h.o, none⟩))) := fun X hX k h hk => by
    rcases hf with e | ⟨g, e, _, hg, hc⟩
    · rw [e] at hk; simp at hk
    · exact ⟨g, e, by rw [hX.cell (p := ⟨g, k, none⟩) hg]; exact hc k h hk⟩
  clear hf ho hb1 HB HW CA
  obtain ⟨n, hn⟩ : ∃ n, al.length = n := ⟨_, rfl⟩
  rw [hn] at hln ⊢
  have HN : Hid (al.length = n) := hn
  clear hn
  go_wp2_with fail
  go_loopw [10] (fun i wr => ∃ k : Nat, k ≤ n ∧ i = .int .i64 k ∧ (∀ (j : Nat) y, j < k → (al.map Hdl.x)[j]? = some y → isKey key y = false) ∧ Below w1.heap.size w1 wr) (fun i _ => n - (intOf i).toNat)
  case atStart => exact ⟨0, Nat.zero_le _, rfl, fun j y h => absurd h (by omega), Below.refl _ _⟩
  case round =>
    obtain ⟨k, hk, rfl, hs, hb⟩ := hrel
    have HS : Hid (∀ (j : Nat) y, j < k → (al.map Hdl.x)[j]? = some y → isKey key y = false) := hs
    clear hs
    have HBW : Hid (Below w.heap.size w wr) := HB1.out.trans (hb.mono HB1.out.size)
    by_cases hlt : k < n
    · obtain ⟨q, hr⟩ : ∃ r, al[k]? = some r := ⟨al[k]'(by have := HN.out; omega), List.getElem?_eq_getElem _⟩
      obtain ⟨g', rfl, p⟩ := HC.out wr hb k q hr
      have p0 := HT.out wr HBW.out q (List.mem_of_getElem? hr)
      have g : (k : Int) < n := by omega
      have g0 : (0 : Int) ≤ k := by omega
      have HM : Hid ((al.map Hdl.x)[k]? = some q.x) := by show _ = _; rw [List.getElem?_map, hr]; rfl
      have HQ : Hid (q ∈ al) := List.mem_of_getElem? hr
      clear hr
      cases he : (q.x.key.toList == key.toList)
      · have HS2 : Hid (∀ (j : Nat) y, j < k + 1 → (al.map Hdl.x)[j]? = some y → isKey key y = false) := by
          intro j y hj hy
          by_cases e : j = k
          · subst e
            rw [HM.out] at hy
            obtain rfl := Option.some.inj hy
            exact he
          · exact HS.out j y (by omega) hy
        generalize q.x.key = qk at *
        go_wp2_with fail
        go_roundw
        case rel => exact ⟨k + 1, by omega, by go_num, HS2.out, hb⟩
        case measure => simp [intOf]; omega
      · have HF : Hid (FindH al key (.pointer (some ⟨q.b, q.o, none⟩))) := .inl ⟨q, HQ.out, find_at _ key k q.x HM.out he HS.out, rfl⟩
        obtain ⟨qk, hqk⟩ : ∃ x, q.x.key = x := ⟨_, rfl⟩
        rw [hqk] at p0 he
        go_wp2_with fail
        go_ret
        exact ⟨⟨_, rfl, HF.out⟩, HBW.out⟩
    · have HF : Hid (FindH al key (.pointer none)) := .inr ⟨find_no _ key (fun j y hy => HS.out j y (by have := (List.getElem?_eq_some_iff.1 hy).1; have := HN.out; simp at *; omega) hy), rfl⟩
      clear HS
      go_wp2_with fail
      go_ret
      exact ⟨⟨_, rfl, HF.out⟩, HBW.out⟩
/-- The handles of a store. -/
def hdl2 (ta ka : Option Addr) (tl kl : List (Ent × EntR)) : List Hdl := hdlsA ta tl ++ hdlsA ka kl
theorem hdl2_x (ta ka : Option Addr) (tl kl : List (Ent × EntR)) : (hdl2 ta ka tl kl).map Hdl.x = tl.map Prod.fst ++ kl.map Prod.fst := by unfold hdl2; rw [List.map_append, hdlsA_x, hdlsA_x]
theorem hdl2_there {w : World} {ta ka : Option Addr} {tl kl : List (Ent × EntR)} (ht : EntsIn w ta tl) (hq : EntsIn w ka kl) : ∀ h ∈ hdl2 ta ka tl kl, HThere w h := fun h hh => by
  rcases List.mem_append.1 hh with hh | hh
  · exact hdlsA_there ht h hh
  · exact hdlsA_there hq h hh
def keyC (bu gu : Int) (tl kl : List Ent) (key : ByteArray) : Int := if storeC bu gu tl kl ≠ 0 then storeC bu gu tl kl else if (tl ++ kl).find? (isKey key) = none then 4 else 0
/-- Shelves, and an entry looked for on them. -/
theorem shFind_any (w : World) (bu gu : Int) (ta ka : Option Addr) (tc kc : Nat) (tl kl : List (Ent × EntR)) (key : ByteArray) (h0 : storeC bu gu (tl.map Prod.fst) (kl.map Prod.fst) = 0) (ht : EntsIn w ta tl) (hq : EntsIn w ka kl) :
    Calls Tryz.prog 56 #[.agg #[.int .i64 bu, .int .i64 gu, .slice ta tl.length tc, .slice ka kl.length kc]] w fun e w' => (∃ v1 v2, e = .returned (.agg #[v1, v2]) ∧ Calls Tryz.prog 103 #[.agg #[v1, v2], .string key] w' fun e w'' => (∃ v, e = .returned v ∧ FindH (hdl2 ta ka tl kl) key v) ∧ Below w'.heap.size w' w'') ∧ Below w.heap.size w w' := by
  obtain ⟨_, z2, _, _, _, _⟩ := storeC_zero h0
  rw [List.length_map, List.length_map] at z2
  refine (shelvesOf_any w bu gu ta ka tc kc tl kl (by omega) (by omega) ht hq).mono ?_
  rintro e w' ⟨⟨v1, v2, rfl, h2⟩, hb⟩
  exact ⟨⟨v1, v2, rfl, findP_any w' v1 v2 _ _ _ key h2 (by rw [hdlsA_len, hdlsA_len]; omega) (hdl2_there (ht.keep hb) (hq.keep hb))⟩, hb⟩
set_option maxHeartbeats 8000000 in
theorem keyFault_any (w : World) (bu gu : Int) (ta ka : Option Addr) (tc kc : Nat) (tl kl : List (Ent × EntR)) (key : ByteArray) (hset : SetIs w) (hl : tl.length ≤ 1048576) (hk : kl.length ≤ 1048576) (hto : ∀ q ∈ tl ++ kl, EntOk q.1) (ht : EntsIn w ta tl) (hq : EntsIn w ka kl) :
    Calls Tryz.prog 55 #[.agg #[.int .i64 bu, .int .i64 gu, .slice ta tl.length tc, .slice ka kl.length kc], .string key] w fun r w' => r = .returned (.int .i64 (keyC bu gu (tl.map Prod.fst) (kl.map Prod.fst) key)) ∧ Below w.heap.size w w' := by
  have HF : Hid (∀ X, Below w.heap.size w X → Calls Tryz.prog 29 #[.agg #[.int .i64 bu, .int .i64 gu, .slice ta tl.length tc, .slice ka kl.length kc]] X fun r w' => r = .returned (.int .i64 (storeC bu gu (tl.map Prod.fst) (kl.map Prod.fst))) ∧ Below X.heap.size X w') := fun X hb => implSto_any X bu gu ta ka tc kc tl kl (hset.below hb) hl hk hto (ht.keep hb) (hq.keep hb)
  have HC : Hid (storeC bu gu (tl.map Prod.fst) (kl.map Prod.fst) = 0 → ∀ X, Below w.heap.size w X → Calls Tryz.prog 56 #[.agg #[.int .i64 bu, .int .i64 gu, .slice ta tl.length tc, .slice ka kl.length kc]] X fun e w' => (∃ v1 v2, e = .returned (.agg #[v1, v2]) ∧ Calls Tryz.prog 103 #[.agg #[v1, v2], .string key] w' fun e w'' => (∃ v, e = .returned v ∧ FindH (hdl2 ta ka tl kl) key v) ∧ Below w'.heap.size w' w'') ∧ Below X.heap.size X w') := fun h0 X hX => shFind_any X bu gu ta ka tc kc tl kl key h0 (ht.keep hX) (hq.keep hX)
  obtain ⟨W, hW⟩ : ∃ W, W = w.alloc (.cells #[.int .i64 bu, .int .i64 gu, .slice ta tl.length tc, .slice ka kl.length kc] 28) := ⟨_, rfl⟩
  have HW : Hid (W = w.alloc (.cells #[.int .i64 bu, .int .i64 gu, .slice ta tl.length tc, .slice ka kl.length kc] 28)) := hW
  have K0 : Hid (Below w.heap.size w W ∧ S4 W w.heap.size (.int .i64 bu) (.int .i64 gu) (.slice ta tl.length tc) (.slice ka kl.length kc)) := by
    rw [hW]; exact ⟨(Below.refl _ _).alloc (Nat.le_refl _) _, S4.new w _ _ _ _ _⟩
  have HX : Hid (∀ v, FindH (hdl2 ta ka tl kl) key v → (∃ p, v = .pointer (some p) ∧ ¬ (tl.map Prod.fst ++ kl.map Prod.fst).find? (isKey key) = none) ∨ (v = .pointer none ∧ (tl.map Prod.fst ++ kl.map Prod.fst).find? (isKey key) = none)) := fun v hv => by
    rcases hv with ⟨h, _, e, rfl⟩ | ⟨e, rfl⟩
    · rw [hdl2_x] at e
      exact .inl ⟨_, rfl, by rw [e]; simp⟩
    · rw [hdl2_x] at e
      exact .inr ⟨rfl, e⟩
  obtain ⟨Z, hZ⟩ : ∃ Z, keyC bu gu (tl.map Prod.fst) (kl.map Prod.fst) key = Z := ⟨_, rfl⟩
  rw [hZ]
  unfold keyC at hZ
  have HZ : Hid (_ = Z) := hZ
  clear hZ hW hset hto ht hq hl hk
  obtain ⟨c, hc⟩ : ∃ c, storeC bu gu (tl.map Prod.fst) (kl.map Prod.fst) = c := ⟨_, rfl⟩
  rw [hc] at HF HC HZ
  clear hc
  generalize (tl.map Prod.fst ++ kl.map Prod.fst).find? (isKey key) = fo at *
  generalize tl.length = tn at *
  generalize kl.length = kn at *
  by_cases c0 : c = 0
  · subst c0
    have HC1 := HC.out rfl
    have HZ1 : Hid ((if fo = none then (4 : Int) else 0) = Z) := by show _ = _; have := HZ.out; simpa using this
    clear HC HZ
    go_enter Tryz.func55, Tryz.ntmps55
    go_wp2_with fail
    rw [← HW.out]
    refine (HF.out _ K0.out.1).mono ?_
    rintro r w1 ⟨rfl, hb1⟩
    have K1 : Hid (Below w.heap.size w w1 ∧ S4 w1 w.heap.size (.int .i64 bu) (.int .i64 gu) (.slice ta tn tc) (.slice ka kn kc)) := ⟨K0.out.1.trans (hb1.mono K0.out.1.size), K0.out.2.keep hb1⟩
    clear hb1 K0 HW HF
    have q0 := K1.out.2.c0
    have q1 := K1.out.2.c1
    have q2 := K1.out.2.c2
    have q3 := K1.out.2.c3
    go_wp2_with fail
    refine (HC1 _ K1.out.1).mono ?_
    rintro r w2 ⟨⟨v1, v2, rfl, C2⟩, hb2⟩
    have B2 : Hid (Below w.heap.size w w2) := K1.out.1.trans (hb2.mono K1.out.1.size)
    clear q0 q1 q2 q3 hb2 K1 HC1
    go_wp2_with fail
    refine C2.mono ?_
    rintro r w3 ⟨⟨v, rfl, hv⟩, hb3⟩
    have B3 : Hid (Below w.heap.size w w3) := B2.out.trans (hb3.mono B2.out.size)
    clear hb3 C2
    rcases HX.out v hv with ⟨p, rfl, hne⟩ | ⟨rfl, he⟩
    · have HE : Hid (0 = Z) := by have := HZ1.out; rw [if_neg hne] at this; exact this
      clear HZ1 hv HX
      go_wp2_with fail
      go_ret
      exact ⟨ret_int HE.out, B3.out⟩
    · have HE : Hid (4 = Z) := by have := HZ1.out; rw [if_pos he] at this; exact this
      clear HZ1 hv HX
      go_wp2_with fail
      go_ret
      exact ⟨ret_int HE.out, B3.out⟩
  · have HE : Hid (c = Z) := by have := HZ.out; rw [if_pos c0] at this; exact this
    clear HC HZ
    go_enter Tryz.func55, Tryz.ntmps55
    go_wp2_with fail
    rw [← HW.out]
    refine (HF.out _ K0.out.1).mono ?_
    rintro r w1 ⟨rfl, hb1⟩
    have B1 : Hid (Below w.heap.size w w1) := K0.out.1.trans (hb1.mono K0.out.1.size)
    clear hb1 K0 HW HF
    go_wp2_with fail
    go_ret
    exact ⟨ret_int HE.out, B1.out⟩
end Go.Proofs.YtdooopkpnanekaaGreatDoor
/-
  Entries of a store that are turned where they stand.
-/
namespace Go.Proofs.YtdooopkpnanekaaGreatDoor
open Go.ChangeShapes Go.WideShapes Go.ChangeAt Go.RowKit Go.Sort
def turnE (p : Ent → Bool) (f : Ent → Ent) (L : List Ent) : List Ent := L.map fun x => if p x then f x else x
def turnM (p : Ent → Bool) (f : Ent → Ent) (m : List (Ent × EntR)) : List (Ent × EntR) := m.map fun q => (if p q.1 then f q.1 else q.1, q.2)
theorem turnM_fst (p : Ent → Bool) (f : Ent → Ent) (m : List (Ent × EntR)) : (turnM p f m).map Prod.fst = turnE p f (m.map Prod.fst) := by simp [turnM, turnE, Function.comp_def]
theorem turnM_len (p : Ent → Bool) (f : Ent → Ent) (m : List (Ent × EntR)) : (turnM p f m).length = m.length := by simp [turnM]
theorem turnM_none {p : Ent → Bool} {f : Ent → Ent} {m : List (Ent × EntR)} (h : ∀ q ∈ m, p q.1 = false) : turnM p f m = m := by
  unfold turnM
  conv => rhs; rw [← List.map_id m]
  exact List.map_congr_left fun q hq => by simp [h q hq]
theorem turnM_mid {p : Ent → Bool} {f : Ent → Ent} {A B : List (Ent × EntR)} {x : Ent} {r : EntR} (hx : p x = true) (hA : ∀ q ∈ A, p q.1 = false) (hB : ∀ q ∈ B, p q.1 = false) : turnM p f (A ++ (x, r) :: B) = A ++ (f x, r) :: B := by
  have a := turnM_none (f := f) hA
  have b := turnM_none (f := f) hB
  unfold turnM at *
  rw [List.map_append, List.map_cons, a, b]
  simp [hx]
theorem foot_turnM (p : Ent → Bool) (f : Ent → Ent) (m : List (Ent × EntR)) : foot (turnM p f m) = foot m := by
  unfold foot turnM
  rw [List.flatMap_map]
/-- No two have one key. -/
def NdK (L : List Ent) : Prop := (keysE L).Nodup
theorem NdK.app {L M : List Ent} (h : NdK (L ++ M)) : NdK L ∧ NdK M ∧ ∀ x ∈ L, ∀ y ∈ M, x.key.toList ≠ y.key.toList := by
  unfold NdK keysE at *
  rw [List.map_append] at h
  have := List.nodup_append.1 h
  exact ⟨this.1, this.2.1, fun x hx y hy => this.2.2 _ (List.mem_map_of_mem hx) _ (List.mem_map_of_mem hy)⟩
theorem isKey_eq {key : ByteArray} {x y : Ent} (hx : isKey key x = true) (hy : isKey key y = true) : x.key.toList = y.key.toList := by
  unfold isKey at hx hy
  rw [beq_iff_eq] at hx hy
  rw [hx, hy]
theorem NdK.mid {key : ByteArray} {A B : List (Ent × EntR)} {x : Ent} {r : EntR} (h : NdK ((A ++ (x, r) :: B).map Prod.fst)) (hx : isKey key x = true) : (∀ q ∈ A, isKey key q.1 = false) ∧ ∀ q ∈ B, isKey key q.1 = false := by
  rw [List.map_append, List.map_cons] at h
  obtain ⟨_, h2, h3⟩ := NdK.app h
  have h2' : NdK ([x] ++ B.map Prod.fst) := h2
  obtain ⟨_, _, h4⟩ := NdK.app h2'
  refine ⟨fun q hq => ?_, fun q hq => ?_⟩
  · by_cases c : isKey key q.1 = true
    · exact absurd (isKey_eq c hx) (h3 q.1 (List.mem_map_of_mem hq) x (by simp))
    · simpa using c
  · by_cases c : isKey key q.1 = true
    · exact absurd (isKey_eq hx c) (h4 x (by simp) q.1 (List.mem_map_of_mem hq))
    · simpa using c
theorem mid_split {α : Type} {l : List α} {i : Nat} {q : α} (h : l[i]? = some q) : ∃ A B, l = A ++ q :: B ∧ A.length = i := by
  obtain ⟨hi, e⟩ := List.getElem?_eq_some_iff.1 h
  exact ⟨l.take i, l.drop (i + 1), by rw [← e, ← List.drop_eq_getElem_cons hi, List.take_append_drop], by rw [List.length_take]; omega⟩
theorem fp_mid (v : Value) (A B : List (Ent × EntR)) (x x' : Ent) (r : EntR) : fp v (A ++ (x', r) :: B) = fp v (A ++ (x, r) :: B) := by unfold fp; rw [foot_mid, foot_mid]
section
variable {w : World} {base g n cap : Nat} {A B l2 : List (Ent × EntR)} {x : Ent} {r : EntR} {v2 : Value}
theorem StoLV.setT (h : StoLV w base (.slice (some ⟨g, 0, none⟩) n cap) v2 (A ++ (x, r) :: B) l2) {i : Nat} (hi : A.length = i) (j : Nat) (hj : j < 13) (u : Value) (x' : Ent) (e : entW x' r = (entW x r).set j u) (eh : x'.hs = x.hs) (eb : x'.bl = x.bl) (et : x'.ts = x.ts) : StoLV (w.setCell ⟨g, i * 13 + j, none⟩ u) base (.slice (some ⟨g, 0, none⟩) n cap) v2 (A ++ (x', r) :: B) l2 :=
  ⟨h.t.set hi j hj u x' e eh eb et, h.k.out (Out.set w g _ u) (fun b hb e => by simp at e; subst e; exact h.nd b (by simp [fp, Value.ownBlock]) hb), by rw [fp_mid _ A B x x' r]; exact h.nd⟩
theorem StoLV.setK (h : StoLV w base v2 (.slice (some ⟨g, 0, none⟩) n cap) l2 (A ++ (x, r) :: B)) {i : Nat} (hi : A.length = i) (j : Nat) (hj : j < 13) (u : Value) (x' : Ent) (e : entW x' r = (entW x r).set j u) (eh : x'.hs = x.hs) (eb : x'.bl = x.bl) (et : x'.ts = x.ts) : StoLV (w.setCell ⟨g, i * 13 + j, none⟩ u) base v2 (.slice (some ⟨g, 0, none⟩) n cap) l2 (A ++ (x', r) :: B) :=
  ⟨h.t.out (Out.set w g _ u) (fun b hb e => by simp at e; subst e; exact h.nd b hb (by simp [fp, Value.ownBlock])), h.k.set hi j hj u x' e eh eb et, fun b hb => by rw [fp_mid _ A B x x' r]; exact h.nd b hb⟩
end
theorem entC_pins {x : Ent} (h : entC x = 0) : 0 ≤ x.pins ∧ x.pins ≤ 20 := by
  have := (entryC_zero h).2.2.1
  unfold pinB at this
  simpa using this
def pinBy (by' : Int) (x : Ent) : Ent := { x with pins := x.pins + by' }
set_option maxRecDepth 100000 in
set_option maxHeartbeats 16000000 in
theorem l8Pin_at (w : World) (B base : Nat) (bu gu by' : Int) (a1 a2 : Option Addr) (n1 k1 n2 k2 : Nat) (m1 m2 : List (Ent × EntR)) (key : ByteArray) (hs : S4 w B (.int .i64 bu) (.int .i64 gu) (.slice a1 n1 k1) (.slice a2 n2 k2)) (h : StoLV w base (.slice a1 n1 k1) (.slice a2 n2 k2) m1 m2) (hB1 : B ∉ fp (.slice a1 n1 k1) m1) (hB2 : B ∉ fp (.slice a2 n2 k2) m2) (hbB : base ≤ B) (z1 : m1.length ≤ 40) (z2 : m2.length ≤ 40) (hnd : NdK ((m1 ++ m2).map Prod.fst)) (hp : ∀ q ∈ m1 ++ m2, isKey key q.1 = true → 0 ≤ q.1.pins + by' ∧ q.1.pins + by' ≤ 20) :
    Calls Tryz.prog 108 #[.pointer (some ⟨B, 0, none⟩), .string key, .int .i64 by'] w fun e w' => e = .returned (.tuple #[]) ∧ S4 w' B (.int .i64 bu) (.int .i64 gu) (.slice a1 n1 k1) (.slice a2 n2 k2) ∧ StoLV w' base (.slice a1 n1 k1) (.slice a2 n2 k2) (turnM (isKey key) (pinBy by') m1) (turnM (isKey key) (pinBy by') m2) ∧ Below base w w' := by
  have hnd' := hnd
  rw [List.map_append] at hnd'
  obtain ⟨d1, d2, _⟩ := NdK.app hnd'
  -- the first list
  have C1 : Hid (Calls Tryz.prog 152 #[.slice a1 n1 k1, .string key] w fun e w' => ((∃ (i G : Nat) (pn : Int), e = .returned (.int .i64 (i : Int)) ∧ i < n1 ∧ i ≤ 40 ∧ a1 = some ⟨G, 0, none⟩ ∧ w'.cell? ⟨B, 2, none⟩ = some (.slice a1 n1 k1) ∧ w'.cell? ⟨G, i * 13 + 12, none⟩ = some (.int .i64 pn) ∧ w'.frozen? ⟨G, i * 13 + 12, none⟩ = false ∧ 0 ≤ pn + by' ∧ pn + by' ≤ 20 ∧ S4 (w'.setCell ⟨G, i * 13 + 12, none⟩ (.int .i64 (pn + by'))) B (.int .i64 bu) (.int .i64 gu) (.slice a1 n1 k1) (.slice a2 n2 k2) ∧ StoLV (w'.setCell ⟨G, i * 13 + 12, none⟩ (.int .i64 (pn + by'))) base (.slice a1 n1 k1) (.slice a2 n2 k2) (turnM (isKey key) (pinBy by') m1) m2 ∧ Below base w (w'.setCell ⟨G, i * 13 + 12, none⟩ (.int .i64 (pn + by')))) ∨ (e = .returned (.int .i64 (-1)) ∧ S4 w' B (.int .i64 bu) (.int .i64 gu) (.slice a1 n1 k1) (.slice a2 n2 k2) ∧ StoLV w' base (.slice a1 n1 k1) (.slice a2 n2 k2) (turnM (isKey key) (pinBy by') m1) m2 ∧ Below base w w'))) := by
    obtain ⟨rfl, i1⟩ := slice_len h.t
    refine (l8Find_any w a1 k1 m1 key (by omega) i1).mono ?_
    rintro e w' ⟨hc, hb⟩
    have hb0 : base ≤ w.heap.size := by have := hs.lt; omega
    have hh := h.below hb
    have ss := hs.keep hb
    rcases hc with ⟨i, q, hq, hk, _, rfl⟩ | ⟨hn, rfl⟩
    · obtain ⟨A, C, em, hA⟩ := mid_split hq
      obtain ⟨x, r⟩ := q
      have hpn := hp (x, r) (List.mem_append_left _ (List.mem_of_getElem? hq)) hk
      have hlt := (List.getElem?_eq_some_iff.1 hq).1
      rcases hh.t.form with ⟨_, e0⟩ | ⟨G, c, e0, _⟩
      · rw [e0] at hq; simp at hq
      · have ea : a1 = some ⟨G, 0, none⟩ := by simp only [Value.slice.injEq] at e0; exact e0.1
        subst ea
        have hmid := NdK.mid (key := key) (by rw [← em]; exact d1) hk
        have cells := hh.t.at.2.2.2.2.1 i (x, r) hq 12 (by omega)
        have hBG : B ≠ G := fun e => hB1 (by subst e; simp [fp, Value.ownBlock])
        refine .inl ⟨i, G, x.pins, rfl, hlt, by omega, rfl, ss.c2, cells, hh.t.at.2.2.2.2.2 _, hpn.1, hpn.2, ss.off (fun e => hBG e.symm), ?_, (hb.mono hb0).setCell hh.t.at.2.2.1 _⟩
        have e2 : turnM (isKey key) (pinBy by') m1 = A ++ (pinBy by' x, r) :: C := by rw [em]; exact turnM_mid hk hmid.1 hmid.2
        rw [e2]
        have hh2 := hh
        rw [em] at hh2
        have := hh2.setT hA 12 (by omega) (.int .i64 (x.pins + by')) (pinBy by' x) rfl rfl rfl rfl
        rw [← em] at this
        exact this
    · refine .inr ⟨rfl, ss, ?_, hb.mono hb0⟩
      rw [turnM_none (fun q hq => by have := List.find?_eq_none.1 hn q.1 (List.mem_map_of_mem hq); simpa using this)]
      exact hh
  have C2 : Hid (∀ X M1, M1.length = m1.length → S4 X B (.int .i64 bu) (.int .i64 gu) (.slice a1 n1 k1) (.slice a2 n2 k2) → StoLV X base (.slice a1 n1 k1) (.slice a2 n2 k2) M1 m2 → Below base w X → Calls Tryz.prog 152 #[.slice a2 n2 k2, .string key] X fun e w' => ((∃ (i G : Nat) (pn : Int), e = .returned (.int .i64 (i : Int)) ∧ i < n2 ∧ i ≤ 40 ∧ a2 = some ⟨G, 0, none⟩ ∧ w'.cell? ⟨B, 3, none⟩ = some (.slice a2 n2 k2) ∧ w'.cell? ⟨G, i * 13 + 12, none⟩ = some (.int .i64 pn) ∧ w'.frozen? ⟨G, i * 13 + 12, none⟩ = false ∧ 0 ≤ pn + by' ∧ pn + by' ≤ 20 ∧ (S4 (w'.setCell ⟨G, i * 13 + 12, none⟩ (.int .i64 (pn + by'))) B (.int .i64 bu) (.int .i64 gu) (.slice a1 n1 k1) (.slice a2 n2 k2) ∧ StoLV (w'.setCell ⟨G, i * 13 + 12, none⟩ (.int .i64 (pn + by'))) base (.slice a1 n1 k1) (.slice a2 n2 k2) M1 (turnM (isKey key) (pinBy by') m2) ∧ Below base w (w'.setCell ⟨G, i * 13 + 12, none⟩ (.int .i64 (pn + by'))))) ∨ (e = .returned (.int .i64 (-1)) ∧ S4 w' B (.int .i64 bu) (.int .i64 gu) (.slice a1 n1 k1) (.slice a2 n2 k2) ∧ StoLV w' base (.slice a1 n1 k1) (.slice a2 n2 k2) M1 (turnM (isKey key) (pinBy by') m2) ∧ Below base w w'))) := fun X M1 _ hs h hbX => by
    obtain ⟨rfl, i1⟩ := slice_len h.k
    refine (l8Find_any X a2 k2 m2 key (by omega) i1).mono ?_
    rintro e w' ⟨hc, hb⟩
    have hb0 : base ≤ X.heap.size := by have := hs.lt; omega
    have hh := h.below hb
    have ss := hs.keep hb
    rcases hc with ⟨i, q, hq, hk, _, rfl⟩ | ⟨hn, rfl⟩
    · obtain ⟨A, C, em, hA⟩ := mid_split hq
      obtain ⟨x, r⟩ := q
      have hpn := hp (x, r) (List.mem_append_right _ (List.mem_of_getElem? hq)) hk
      have hlt := (List.getElem?_eq_some_iff.1 hq).1
      rcases hh.k.form with ⟨_, e0⟩ | ⟨G, c, e0, _⟩
      · rw [e0] at hq; simp at hq
      · have ea : a2 = some ⟨G, 0, none⟩ := by simp only [Value.slice.injEq] at e0; exact e0.1
        subst ea
        have hmid := NdK.mid (key := key) (by rw [← em]; exact d2) hk
        have cells := hh.k.at.2.2.2.2.1 i (x, r) hq 12 (by omega)
        have hBG : B ≠ G := fun e => hB2 (by subst e; simp [fp, Value.ownBlock])
        refine .inl ⟨i, G, x.pins, rfl, hlt, by omega, rfl, ss.c3, cells, hh.k.at.2.2.2.2.2 _, hpn.1, hpn.2, ss.off (fun e => hBG e.symm), ?_, (hbX.trans (hb.mono hb0)).setCell hh.k.at.2.2.1 _⟩
        have e2 : turnM (isKey key) (pinBy by') m2 = A ++ (pinBy by' x, r) :: C := by rw [em]; exact turnM_mid hk hmid.1 hmid.2
        rw [e2]
        have hh2 := hh
        rw [em] at hh2
        have := hh2.setK hA 12 (by omega) (.int .i64 (x.pins + by')) (pinBy by' x) rfl rfl rfl rfl
        rw [← em] at this
        exact this
    · refine .inr ⟨rfl, ss, ?_, hbX.trans (hb.mono hb0)⟩
      rw [turnM_none (fun q hq => by have := List.find?_eq_none.1 hn q.1 (List.mem_map_of_mem hq); simpa using this)]
      exact hh
  have e2 := hs.c2
  have HLN : Hid ((turnM (isKey key) (pinBy by') m1).length = m1.length) := turnM_len _ _ _
  clear hs h hB1 hB2 hnd hnd' d1 d2 hp z1 z2 hbB
  generalize turnM (isKey key) (pinBy by') m1 = M1 at *
  generalize turnM (isKey key) (pinBy by') m2 = M2 at *
  go_enter Tryz.func108, Tryz.ntmps108
  go_wp2_with fail
  refine C1.out.mono ?_
  rintro e w1 (⟨i, G, pn, rfl, hi, hi4, rfl, y2, yG, yf, p0, p1, hnx⟩ | ⟨rfl, hnx⟩)
  · have HX : Hid (S4 (w1.setCell ⟨G, i * 13 + 12, none⟩ (.int .i64 (pn + by'))).drew B (.int .i64 bu) (.int .i64 gu) (.slice (some ⟨G, 0, none⟩) n1 k1) (.slice a2 n2 k2) ∧ StoLV (w1.setCell ⟨G, i * 13 + 12, none⟩ (.int .i64 (pn + by'))).drew base (.slice (some ⟨G, 0, none⟩) n1 k1) (.slice a2 n2 k2) M1 m2 ∧ Below base w (w1.setCell ⟨G, i * 13 + 12, none⟩ (.int .i64 (pn + by'))).drew) := ⟨hnx.1.keep ((Below.refl _ _).drew), hnx.2.1.below ((Below.refl _ _).drew), hnx.2.2.drew⟩
    have gi : (i : Int) < n1 := by omega
    have gi0 : (0 : Int) ≤ i := by omega
    have ew : IntKind.i64.wrap (pn + by') = pn + by' := by unfold IntKind.wrap; simp [IntKind.signed, IntKind.bits]; omega
    have CC := C2.out _ M1 HLN.out HX.out.1 HX.out.2.1 HX.out.2.2
    have z3 := HX.out.1.c3
    clear C1 C2 hnx HX e2
    go_wp2_with fail
    go_region
    clear y2 yG yf p0 p1 ew gi gi0 hi hi4
    go_wp2_with fail
    refine CC.mono ?_
    clear z3 CC
    rintro e w2 (⟨i, G, pn, rfl, hi, hi4, rfl, y2, yG, yf, p0, p1, hnx⟩ | ⟨rfl, hnx⟩)
    · have HX : Hid _ := hnx
      have gi : (i : Int) < n2 := by omega
      have gi0 : (0 : Int) ≤ i := by omega
      have ew : IntKind.i64.wrap (pn + by') = pn + by' := by unfold IntKind.wrap; simp [IntKind.signed, IntKind.bits]; omega
      clear hnx
      go_wp2_with fail
      go_region
      clear y2 yG yf p0 p1 ew gi gi0 hi hi4
      go_wp2_with fail
      exact bodyPost_end (v := .tuple #[]) (by simp [results, Tryz.results108, go_sem]) rfl ⟨rfl, HX.out.1.keep ((Below.refl _ _).drew), HX.out.2.1.below ((Below.refl _ _).drew), HX.out.2.2.drew⟩
    · have HX : Hid _ := hnx
      clear hnx
      go_wp2_with fail
      exact bodyPost_end (v := .tuple #[]) (by simp [results, Tryz.results108, go_sem]) rfl ⟨rfl, HX.out⟩
  · have CC := C2.out _ M1 HLN.out hnx.1 hnx.2.1 hnx.2.2
    have z3 := hnx.1.c3
    clear C1 C2 hnx e2
    go_wp2_with fail
    refine CC.mono ?_
    clear z3 CC
    rintro e w2 (⟨i, G, pn, rfl, hi, hi4, rfl, y2, yG, yf, p0, p1, hnx⟩ | ⟨rfl, hnx⟩)
    · have HX : Hid _ := hnx
      have gi : (i : Int) < n2 := by omega
      have gi0 : (0 : Int) ≤ i := by omega
      have ew : IntKind.i64.wrap (pn + by') = pn + by' := by unfold IntKind.wrap; simp [IntKind.signed, IntKind.bits]; omega
      clear hnx
      go_wp2_with fail
      go_region
      clear y2 yG yf p0 p1 ew gi gi0 hi hi4
      go_wp2_with fail
      exact bodyPost_end (v := .tuple #[]) (by simp [results, Tryz.results108, go_sem]) rfl ⟨rfl, HX.out.1.keep ((Below.refl _ _).drew), HX.out.2.1.below ((Below.refl _ _).drew), HX.out.2.2.drew⟩
    · have HX : Hid _ := hnx
      clear hnx
      go_wp2_with fail
      exact bodyPost_end (v := .tuple #[]) (by simp [results, Tryz.results108, go_sem]) rfl ⟨rfl, HX.out⟩
end Go.Proofs.YtdooopkpnanekaaGreatDoor
/-
  Pieces of the program's copying of an entry: lineOf, bytes.Clone, one more behind a row.
-/
namespace Go.Proofs.YtdooopkpnanekaaGreatDoor
open Go.ChangeShapes Go.WideShapes Go.ChangeAt Go.RowKit Go.Sort
set_option maxHeartbeats 2000000 in
theorem lineOf_anew (n z : ByteArray) (w : World) (hn : n.size ≤ 1048576) (hz : z.size ≤ 1048576) :
    Calls Tryz.prog 190 #[.string n, .string z] w fun e w' => e = .returned (.agg #[.string n, .string z]) ∧ Below w.heap.size w w' := by
  have C1 : Hid (∀ X, Calls Tryz.prog 134 #[.string n] X fun e w' => e = .returned (.string n) ∧ Below X.heap.size X w') := fun X => clone_text n X hn
  have C2 : Hid (∀ X, Calls Tryz.prog 134 #[.string z] X fun e w' => e = .returned (.string z) ∧ Below X.heap.size X w') := fun X => clone_text z X hz
  obtain ⟨W, hW⟩ : ∃ W, W = w.alloc (.cells #[.string ⟨#[]⟩, .string ⟨#[]⟩] 165) := ⟨_, rfl⟩
  have HW : Hid (W = w.alloc (.cells #[.string ⟨#[]⟩, .string ⟨#[]⟩] 165)) := hW
  have K0 : Hid (Below w.heap.size w W ∧ W.cell? ⟨w.heap.size, 0, none⟩ = some (.string ⟨#[]⟩) ∧ W.cell? ⟨w.heap.size, 1, none⟩ = some (.string ⟨#[]⟩) ∧ (∀ o, W.frozen? ⟨w.heap.size, o, none⟩ = false) ∧ w.heap.size < W.heap.size) := by
    rw [hW]; exact ⟨(Below.refl _ _).alloc (Nat.le_refl _) _, by simp, by simp, fun o => by simp, by simp⟩
  clear hW
  go_enter Tryz.func190, Tryz.ntmps190
  go_wp2_with fail
  rw [← HW.out]
  refine (C1.out _).mono ?_
  rintro e w1 ⟨rfl, hb1⟩
  go_wp2_with fail
  refine (C2.out _).mono ?_
  rintro e w2 ⟨rfl, hb2⟩
  have b2 : Below W.heap.size W w2 := hb1.trans (hb2.mono hb1.size)
  have r0 : w2.cell? ⟨w.heap.size, 0, none⟩ = some (.string ⟨#[]⟩) := by rw [b2.cell (p := ⟨w.heap.size, 0, none⟩) K0.out.2.2.2.2]; exact K0.out.2.1
  have r1 : w2.cell? ⟨w.heap.size, 1, none⟩ = some (.string ⟨#[]⟩) := by rw [b2.cell (p := ⟨w.heap.size, 1, none⟩) K0.out.2.2.2.2]; exact K0.out.2.2.1
  have f0 : w2.frozen? ⟨w.heap.size, 0, none⟩ = false := by rw [b2.frozen (p := ⟨w.heap.size, 0, none⟩) K0.out.2.2.2.2]; exact K0.out.2.2.2.1 0
  have f1 : w2.frozen? ⟨w.heap.size, 1, none⟩ = false := by rw [b2.frozen (p := ⟨w.heap.size, 1, none⟩) K0.out.2.2.2.2]; exact K0.out.2.2.2.1 1
  have HB : Hid (Below w.heap.size w w2) := K0.out.1.trans (b2.mono K0.out.1.size)
  clear hb1 hb2 b2 K0 HW C1 C2
  go_wp2_with fail
  exact bodyPost_ret (v := .agg #[.string n, .string z]) (by simp [results, Tryz.results190, go_sem, r0, r1]) rfl ⟨rfl, (HB.out.setCell (Nat.le_refl _) _).setCell (Nat.le_refl _) _⟩
set_option maxRecDepth 100000 in
set_option maxHeartbeats 4000000 in
theorem bClone_any (w : World) (a : Option Addr) (cap : Nat) (l : List UInt8) (hl : l.length ≤ 1048576) (hi : BIn w a l) :
    Calls Tryz.prog 149 #[.slice a l.length cap] w fun e w' => (∃ v, e = .returned v ∧ RowB w' w.heap.size v l) ∧ Below w.heap.size w w' := by
  cases a with
  | none =>
    have e : l = [] := by
      rcases hi with h | ⟨b, off, h, _⟩
      · exact h
      · cases h
    subst e
    clear hi
    have hnil := fun w => Lib.run_eql_slice_nil (P := Tryz.prog) w 39 5 none 0 cap 0 0 Tryz.underlying39
    simp only [Option.isNone_none] at hnil
    go_enter Tryz.func149, Tryz.ntmps149
    go_wp2_with fail
    go_ret
    exact ⟨⟨_, rfl, World.ownsRow_nil _ _ _ _⟩, Below.refl _ _⟩
  | some p =>
    obtain ⟨i0, hi0, hz0, hz1, hz2⟩ := info_parts cByteI
    have B1 : Hid (Below w.heap.size w (w.alloc (.cells #[] 5))) := (Below.refl _ _).alloc (Nat.le_refl _) _
    have O1 : Hid ((w.alloc (.cells #[] 5)).ownsRow w.heap.size 5 1 (.slice (some ⟨w.heap.size, 0, none⟩) 0 0) 0 []) := World.ownsRow_made w #[] 0 (Nat.le_refl _) (by unfold maxLen; omega) rfl
    have HIN : Hid (l.length = 0 ∨ ∃ ad, some p = some ad ∧ ∀ j u, (cBytes l)[j]? = some u → (w.alloc (.cells #[] 5)).cell? (ad.add j) = some u) := cBytes_in (hi.keep B1.out)
    have HLN : Hid ((cBytes l).length = l.length * 1) := by show _ = _; unfold cBytes; simp
    have HRW : Hid (∀ X v, X.ownsRow w.heap.size 5 1 v (0 + l.length) ([] ++ cBytes l) → RowB X w.heap.size v l) := fun X v h => by rw [Nat.zero_add, List.nil_append] at h; exact h
    clear hi
    generalize hn : l.length = n at *
    clear hn
    have hnil := fun w => Lib.run_eql_slice_nil (P := Tryz.prog) w 39 5 (some p) n cap 0 0 Tryz.underlying39
    simp only [Option.isNone_some] at hnil
    go_enter Tryz.func149, Tryz.ntmps149
    go_wp2_with (at_builtin; refine wpList_plain rfl fun _ hK => wp_append_in _ (.tmp 5) (.tmp 6) 39 5 rfl i0 _ 1 1 Tryz.underlying39 hi0 hz0 hz1 hz2 rfl (by omega) w.heap.size _ 0 [] rfl O1.out (some p) cap n (cBytes l) rfl HLN.out HIN.out (cOneB l) (by unfold maxLen; omega) (by omega) B1.out.size (fun v' w' h1 h2 _ => hK _ _ ?_))
    go_ret
    exact ⟨⟨_, rfl, HRW.out _ _ h1⟩, B1.out.trans h2⟩
end Go.Proofs.YtdooopkpnanekaaGreatDoor
/-
  Head lines that are copied, by the program.
-/
namespace Go.Proofs.YtdooopkpnanekaaGreatDoor
open Go.ChangeShapes Go.WideShapes Go.ChangeAt Go.RowKit Go.Sort
set_option maxRecDepth 100000 in
set_option maxHeartbeats 4000000 in
theorem linesAnew_any (w : World) (a : Option Addr) (cap : Nat) (l : List Hdr) (hl : l.length ≤ 1048576) (hs : ∀ r ∈ l, r.name.size ≤ 1048576 ∧ r.value.size ≤ 1048576) (hi : HdsIn w a l) :
    Calls Tryz.prog 148 #[.slice a l.length cap] w fun e w' => (∃ v, e = .returned v ∧ RowH w' w.heap.size v l) ∧ Below w.heap.size w w' := by
  have HI : Hid (HdsIn w a l) := hi
  have HSM : Hid (∀ r ∈ l, r.name.size ≤ 1048576 ∧ r.value.size ≤ 1048576) := hs
  obtain ⟨i0, hi0, hz0, hz1, hz2⟩ := info_parts cHeadI
  clear hi hs
  generalize hn : l.length = n at *
  have HN : Hid (l.length = n) := hn
  clear hn
  go_enter Tryz.func148, Tryz.ntmps148
  go_wp2_with fail
  go_loopw [3, 8] (fun v i wr => ∃ k : Nat, k ≤ n ∧ i = .int .i64 k ∧ wr.ownsRow w.heap.size 165 2 v k (hdrsW (l.take k)) ∧ Below w.heap.size w wr) (fun _ i _ => n - (intOf i).toNat)
  case atStart => exact ⟨0, Nat.zero_le _, rfl, World.ownsRow_nil _ _ _ _, Below.refl _ _⟩
  case round =>
    obtain ⟨k, hk, rfl, hrow, hb⟩ := hrel
    obtain ⟨va, vc, rfl, _⟩ := row_form hrow
    by_cases hlt : k < n
    · obtain ⟨r, hr⟩ : ∃ r, l[k]? = some r := ⟨l[k]'(by have := HN.out; omega), List.getElem?_eq_getElem _⟩
      rcases HI.out with e | ⟨b', off', er, hat⟩
      · rw [e] at hr; simp at hr
      obtain ⟨p0, p1⟩ := (hat.keep hb) k r hr
      have sm := HSM.out r (List.mem_of_getElem? hr)
      rw [er]
      have g : (k : Int) < n := by omega
      have g0 : (0 : Int) ≤ k := by omega
      obtain ⟨W2, hW2⟩ : ∃ W2, W2 = wr.alloc (.cells #[.string r.name, .string r.value] 165) := ⟨_, rfl⟩
      have HW2 : Hid (W2 = wr.alloc (.cells #[.string r.name, .string r.value] 165)) := hW2
      have b2 : Below wr.heap.size wr W2 := by rw [hW2]; exact (Below.refl _ _).alloc (Nat.le_refl _) _
      have R2 : Hid (W2.ownsRow w.heap.size 165 2 (.slice va k vc) k (hdrsW (l.take k)) ∧ Below w.heap.size w W2) := ⟨row_below hrow b2, hb.trans (b2.mono hb.size)⟩
      have HT : Hid (hdrsW (l.take k) ++ [.string r.name, .string r.value] = hdrsW (l.take (k + 1))) := by
        show _ = _
        obtain ⟨hk2, rfl⟩ := List.getElem?_eq_some_iff.1 hr
        rw [List.take_succ_eq_append_getElem hk2]
        unfold hdrsW
        rw [List.flatMap_append, List.flatMap_cons, List.flatMap_nil, List.append_nil]
        rfl
      have CL : Hid (∀ X, Calls Tryz.prog 190 #[.string r.name, .string r.value] X fun e w' => e = .returned (.agg #[.string r.name, .string r.value]) ∧ Below X.heap.size X w') := fun X => lineOf_anew _ _ X sm.1 sm.2
      clear hrow hat hr sm hW2 b2 hb
      go_wp2_with fail
      rw [← HW2.out]
      clear HW2 p0 p1
      refine (CL.out _).mono ?_
      rintro e0 wa ⟨rfl, hba⟩
      have N3 : Hid (1 = 0 ∨ ∃ ad, some (⟨wa.heap.size, 0, none⟩ : Addr) = some ad ∧ ∀ j u, ([Value.string r.name, Value.string r.value])[j]? = some u → (wa.alloc (.cells #[.string r.name, .string r.value] 165)).cell? (ad.add j) = some u) := by
        refine .inr ⟨_, rfl, fun j u hj => ?_⟩
        rw [cadd]
        match j, hj with
        | 0, hj => simp at hj; subst hj; simp
        | 1, hj => simp at hj; subst hj; simp
      have b3 : Below W2.heap.size W2 (wa.alloc (.cells #[.string r.name, .string r.value] 165)) := hba.alloc hba.size _
      have RR3 : Hid ((wa.alloc (.cells #[.string r.name, .string r.value] 165)).ownsRow w.heap.size 165 2 (.slice va k vc) k (hdrsW (l.take k)) ∧ Below w.heap.size w (wa.alloc (.cells #[.string r.name, .string r.value] 165))) := ⟨row_below R2.out.1 b3, R2.out.2.trans (b3.mono R2.out.2.size)⟩
      clear b3 hba R2
      go_wp2_with (at_builtin; refine wpList_plain rfl fun _ hK => wp_append_in _ (.tmp 12) (.tmp 18) 49 165 rfl i0 _ 2 32 Tryz.underlying49 hi0 hz0 hz1 hz2 rfl (by omega) w.heap.size _ k (hdrsW (l.take k)) rfl RR3.out.1 (some ⟨wa.heap.size, 0, none⟩) 1 1 [.string r.name, .string r.value] rfl rfl N3.out (by simp [Value.oneCell']) (by unfold maxLen; omega) (by omega) RR3.out.2.size (fun v' w' h1 h2 _ => hK _ _ ?_))
      have HF : Hid (w'.ownsRow w.heap.size 165 2 v' (k + 1) (hdrsW (l.take (k + 1))) ∧ Below w.heap.size w w') := by
        rw [HT.out] at h1
        exact ⟨h1, RR3.out.2.trans h2⟩
      clear h1 h2 RR3 N3
      go_wp2_with fail
      go_roundw
      case rel => exact ⟨k + 1, by omega, by go_num, HF.out.1, HF.out.2⟩
      case measure => simp [intOf]; omega
    · have HF : Hid (RowH wr w.heap.size (.slice va k vc) l) := by
        have e : l.take k = l := List.take_of_length_le (by have := HN.out; omega)
        have := hrow
        rw [e] at this
        have hkn : k = l.length := by have := HN.out; omega
        subst hkn
        exact this
      clear hrow
      go_wp2_with fail
      go_ret
      exact ⟨⟨_, rfl, HF.out⟩, hb⟩
end Go.Proofs.YtdooopkpnanekaaGreatDoor
/-
  Texts that are copied, by the program.
-/
namespace Go.Proofs.YtdooopkpnanekaaGreatDoor
open Go.ChangeShapes Go.WideShapes Go.ChangeAt Go.RowKit Go.Sort
set_option maxRecDepth 100000 in
set_option maxHeartbeats 8000000 in
theorem textsAnew_any (w : World) (a : Option Addr) (cap : Nat) (l : List ByteArray) (hl : l.length ≤ 1048576) (hs : ∀ r ∈ l, r.size ≤ 1048576) (hi : TIn w a l) :
    Calls Tryz.prog 150 #[.slice a l.length cap] w fun e w' => (∃ v, e = .returned v ∧ RowT w' w.heap.size v l) ∧ Below w.heap.size w w' := by
  have HI : Hid (TIn w a l) := hi
  have HSM : Hid (∀ r ∈ l, r.size ≤ 1048576) := hs
  obtain ⟨i0, hi0, hz0, hz1, hz2⟩ := info_parts cTextI
  clear hi hs
  generalize hn : l.length = n at *
  have HN : Hid (l.length = n) := hn
  clear hn
  go_enter Tryz.func150, Tryz.ntmps150
  go_wp2_with fail
  go_loopw [3, 8] (fun v i wr => ∃ k : Nat, k ≤ n ∧ i = .int .i64 k ∧ wr.ownsRow w.heap.size 9 1 v k (cTexts (l.take k)) ∧ Below w.heap.size w wr) (fun _ i _ => n - (intOf i).toNat)
  case atStart => exact ⟨0, Nat.zero_le _, rfl, World.ownsRow_nil _ _ _ _, Below.refl _ _⟩
  case round =>
    obtain ⟨k, hk, rfl, hrow, hb⟩ := hrel
    obtain ⟨va, vc, rfl, _⟩ := row_form hrow
    by_cases hlt : k < n
    · obtain ⟨r, hr⟩ : ∃ r, l[k]? = some r := ⟨l[k]'(by have := HN.out; omega), List.getElem?_eq_getElem _⟩
      rcases HI.out with e | ⟨b', off', er, hat⟩
      · rw [e] at hr; simp at hr
      have p0 : wr.cell? ⟨b', off' + k, none⟩ = some (.string r) := (hat.keep hb) k r hr
      have sm := HSM.out r (List.mem_of_getElem? hr)
      rw [er]
      have g : (k : Int) < n := by omega
      have g0 : (0 : Int) ≤ k := by omega
      have R2 : Hid (wr.ownsRow w.heap.size 9 1 (.slice va k vc) k (cTexts (l.take k)) ∧ Below w.heap.size w wr) := ⟨hrow, hb⟩
      have HT : Hid (cTexts (l.take k) ++ [.string r] = cTexts (l.take (k + 1))) := by
        show _ = _
        obtain ⟨hk2, rfl⟩ := List.getElem?_eq_some_iff.1 hr
        rw [List.take_succ_eq_append_getElem hk2]
        unfold cTexts
        rw [List.map_append]
        rfl
      have CL : Hid (∀ X, Calls Tryz.prog 134 #[.string r] X fun e w' => e = .returned (.string r) ∧ Below X.heap.size X w') := fun X => clone_text _ X sm
      clear hrow hat hr sm hb
      go_wp2_with fail
      refine (CL.out _).mono ?_
      rintro e0 wa ⟨rfl, hba⟩
      have N3 : Hid (1 = 0 ∨ ∃ ad, some (⟨wa.heap.size, 0, none⟩ : Addr) = some ad ∧ ∀ j u, ([Value.string r])[j]? = some u → (wa.alloc (.cells #[.string r] 9)).cell? (ad.add j) = some u) := by
        refine .inr ⟨_, rfl, fun j u hj => ?_⟩
        rw [cadd]
        match j, hj with
        | 0, hj => simp at hj; subst hj; simp
      have b3 : Below wr.heap.size wr (wa.alloc (.cells #[.string r] 9)) := hba.alloc hba.size _
      have RR3 : Hid ((wa.alloc (.cells #[.string r] 9)).ownsRow w.heap.size 9 1 (.slice va k vc) k (cTexts (l.take k)) ∧ Below w.heap.size w (wa.alloc (.cells #[.string r] 9))) := ⟨row_below R2.out.1 b3, R2.out.2.trans (b3.mono R2.out.2.size)⟩
      clear b3 hba R2 p0
      go_wp2_with (at_builtin; refine wpList_plain rfl fun _ hK => wp_append_in _ (.tmp 12) (.tmp 15) 42 9 rfl i0 _ 1 16 Tryz.underlying42 hi0 hz0 hz1 hz2 rfl (by omega) w.heap.size _ k (cTexts (l.take k)) rfl RR3.out.1 (some ⟨wa.heap.size, 0, none⟩) 1 1 [.string r] rfl rfl N3.out (fun u hu => by simp at hu; subst hu; rfl) (by unfold maxLen; omega) (by omega) RR3.out.2.size (fun v' w' h1 h2 _ => hK _ _ ?_))
      have HF : Hid (w'.ownsRow w.heap.size 9 1 v' (k + 1) (cTexts (l.take (k + 1))) ∧ Below w.heap.size w w') := by
        rw [HT.out] at h1
        exact ⟨h1, RR3.out.2.trans h2⟩
      clear h1 h2 RR3 N3
      go_wp2_with fail
      go_roundw
      case rel => exact ⟨k + 1, by omega, by go_num, HF.out.1, HF.out.2⟩
      case measure => simp [intOf]; omega
    · have HF : Hid (RowT wr w.heap.size (.slice va k vc) l) := by
        have e : l.take k = l := List.take_of_length_le (by have := HN.out; omega)
        have := hrow
        rw [e] at this
        have hkn : k = l.length := by have := HN.out; omega
        subst hkn
        exact this
      clear hrow
      go_wp2_with fail
      go_ret
      exact ⟨⟨_, rfl, HF.out⟩, hb⟩
end Go.Proofs.YtdooopkpnanekaaGreatDoor
/-
  A region that draws its order, whose last operation waits for all others: what is held of the world is held behind each operation but that last one.
-/
namespace Go.Proofs.YtdooopkpnanekaaGreatDoor
open Go Go.ChangeShapes Go.WideShapes Go.ChangeAt Go.RowKit
section
variable {P : Program} {ops : Array Oper} {Q : Exit → Act → World → Prop} {S : World → Prop} {m : Nat}
/-- Whatever may come up; behind it S is shown, but where it was operation m. -/
def butLast (P : Program) (ops : Array Oper) (Q : Exit → Act → World → Prop) (S : World → Prop) (m : Nat) : Nat → Array Bool → Act → World → Prop
  | 0, done, a, w => Region.ready .any ops done = [] ∧ Q .normal a w
  | n + 1, done, a, w => (Region.ready .any ops done = [] → Q .normal a w) ∧
      ∀ i ∈ Region.ready .any ops done, wpOp P ops Q i (fun a' w' => (i = m ∨ S w') ∧ butLast P ops Q S m n (done.setIfInBounds i true) a' w') a w
theorem butLast_any : ∀ (n : Nat) (done : Array Bool) (a : Act) (w : World), butLast P ops Q S m n done a w → wpAny P .any ops Q n done a w := by
  intro n
  induction n with
  | zero => intro done a w h; exact h
  | succ n ih => intro done a w h; exact ⟨h.1, fun i hi => wpOp_mono (fun a' w' k => ih _ a' w' k.2) (h.2 i hi)⟩
theorem ready_not_done {done : Array Bool} {i : Nat} (h : i ∈ Region.ready .any ops done) (k : done.getD i false = true) : False := by
  have q := (mem_ready.1 h).1
  rcases Nat.lt_or_ge i done.size with z | z
  · simp [z] at q k
    rw [q] at k
    cases k
  · simp [Array.getElem?_eq_none z] at k
/-- While operation i has not come up, one that waits for it cannot. -/
theorem waits_not {done : Array Bool} {i j : Nat} (hi : i ∈ Region.ready .any ops done) (hj : j ∈ Region.ready .any ops done) (hw : Region.waitsFor .any ops j i = true) : False := by
  obtain ⟨oj, hoj, e, he, hb, rfl⟩ := Region.waitsFor_spec hw
  obtain ⟨_, oj', hoj', hall⟩ := mem_ready.1 hj
  rw [hoj] at hoj'
  cases hoj'
  exact ready_not_done hi (hall e he hb)
/-- One that yields in every world that meets S may be taken first, if the last one waits for it. -/
theorem butLast_first {i : Nat} {oi : Oper} {v : Value} (hi : ops[i]? = some oi) (hsel : ∀ (j : Nat) (o : Oper) cs b, ops[j]? = some o → o.op ≠ .select cs b)
    (hw : Region.waitsFor .any ops m i = true) (hQ : ∀ c a w, Q (.panic c) (a.put oi.dst v) w → Q (.panic c) a w) :
    ∀ (n : Nat) (done : Array Bool) (a : Act) (w : World), (∀ j oj, ops[j]? = some oj → j ≠ i → done.getD j true = false → (∀ e ∈ oj.after, Region.binds .any e = true → e.on ≠ i) → oi.apart ops oj = true) →
      i ∈ Region.ready .any ops done → YieldsIf P ops S oi v a → S w → butLast P ops Q S m n (done.setIfInBounds i true) (a.put oi.dst v) w → butLast P ops Q S m (n + 1) done a w := by
  intro n
  induction n with
  | zero =>
    intro done a w _ hr hy hS H
    refine ⟨fun z => (by rw [z] at hr; cases hr), fun j hj => ?_⟩
    by_cases e : j = i
    · rw [e]; exact hy.wpOp hi hS ⟨.inr hS, H⟩
    · have k := ready_mono hj e
      rw [H.1] at k
      cases k
  | succ n ih =>
    intro done a w hap hr hy hS H
    refine ⟨fun z => (by rw [z] at hr; cases hr), fun j hj => ?_⟩
    by_cases e : j = i
    · rw [e]; exact hy.wpOp hi hS ⟨.inr hS, H⟩
    · have hjm : j ≠ m := fun q => waits_not hr hj (by rw [q]; exact hw)
      obtain ⟨hun, oj, hoj, hall⟩ := mem_ready.1 hj
      have hno : ∀ x ∈ oj.after, Region.binds .any x = true → x.on ≠ i := fun x hx hb q => ready_not_done hr (by have := hall x hx hb; rwa [q] at this)
      have step := wpOp_putIf hoj (hap j oj hoj e hun hno) (fun cs b => hsel i oi cs b hi) (fun cs b => hsel j oj cs b hoj) hQ hy (H.2 j (ready_mono hj e))
      refine wpOp_mono (fun a' w' k => ?_) step
      have hS' : S w' := k.2.1.resolve_left hjm
      refine ⟨.inr hS', ih (done.setIfInBounds j true) a' w' (fun c oc hc hci hcu hcn => hap c oc hc hci ?_ hcn) (ready_mono hr (Ne.symm e)) k.1 hS' ?_⟩
      · by_cases q : j = c
        · rw [← q]; exact hun
        · rwa [getD_set_ne true q] at hcu
      · rw [Array.setIfInBounds_comm _ _ e]
        exact k.2.2
theorem butLast_take {i : Nat} {oi : Oper} {v : Value} {n : Nat} {done : Array Bool} {a : Act} {w : World} (hi : ops[i]? = some oi) (hs : Region.noSelect ops = true)
    (hf : Region.free .any ops done i = true) (hr : (Region.ready .any ops done).contains i = true) (hw : Region.waitsFor .any ops m i = true)
    (hQ : ∀ c a w, Q (.panic c) (a.put oi.dst v) w → Q (.panic c) a w) (hy : YieldsIf P ops S oi v a) (hS : S w)
    (h : butLast P ops Q S m n (done.setIfInBounds i true) (a.put oi.dst v) w) : butLast P ops Q S m (n + 1) done a w :=
  butLast_first hi (Region.noSelect_spec hs) hw hQ n done a w (Region.free_spec hi hf) (by simpa using hr) hy hS h
/-- Only one may come up. -/
theorem butLast_one {i n : Nat} {o : Oper} {done : Array Bool} {a : Act} {w : World} (ho : ops[i]? = some o) (hr : Region.ready .any ops done = [i])
    (h : ∀ K : Act → World → Prop, (∀ a' w', (i = m ∨ S w') → butLast P ops Q S m n (done.setIfInBounds i true) a' w' → K a' w') → if Region.wanted o (yielded ops a.tmps) = true then Oper.wp P o a w K Q else K (a.put o.dst undef) w) :
    butLast P ops Q S m (n + 1) done a w := by
  refine ⟨fun z => (by rw [z] at hr; cases hr), fun j hj => ?_⟩
  rw [hr, List.mem_singleton] at hj
  rw [hj]
  exact wpOp_step ho fun K hK => h K fun a' w' h1 h2 => hK a' w' ⟨h1, h2⟩
theorem butLast_end {done : Array Bool} {a : Act} {w : World} {n : Nat} (hr : Region.ready .any ops done = []) (h : Q .normal a w) : butLast P ops Q S m n done a w := by
  cases n with
  | zero => exact ⟨hr, h⟩
  | succ n => exact ⟨fun _ => h, by rw [hr]; simp⟩
theorem wp_region_last (S : World → Prop) (m : Nat) {id : Nat} {a : Act} {w : World} (hm : P.follows .mixedOrders = true) (h : butLast P ops Q S m ops.size (Array.replicate ops.size false) a w.drew) : (Code.region id ops true).wp P Q a w :=
  wp_region_any hm (butLast_any _ _ _ _ h)
end
end Go.Proofs.YtdooopkpnanekaaGreatDoor
