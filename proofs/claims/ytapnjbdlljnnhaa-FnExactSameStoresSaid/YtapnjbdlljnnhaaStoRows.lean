/-
  Stores, handed over by the laws: room, copies, comparisons.
-/
import Derived.Test.YtapnjbdlljnnhaaEntEqS
import Derived.Test.YtapnjbdlljnnhaaSFour
namespace Go.Proofs.Ytapnjbdlljnnhaa
open Go.ChangeShapes Go.WideShapes Go.ChangeAt Go.RowKit Go.Sort
theorem EntsMine.off1 {W : World} {G : Nat} {l : List (Ent × EntR)} (h : EntsMine W G l) {b i : Nat} (v : Value) (hne : b < G) : EntsMine (W.setCell ⟨b, i, none⟩ v) G l := by
  have ne : ∀ o : Nat, (⟨b, i, none⟩ : Addr) ≠ ⟨G, o, none⟩ := fun o q => by have := congrArg Addr.block q; simp only at this; omega
  exact ⟨fun i q hq j hj => by rw [World.cell?_setCell_other _ _ _ _ (ne _)]; exact h.cell i q hq j hj, fun o => by rw [World.frozen?_setCell]; exact h.free o, by simpa using h.lt, fun q hq => (h.own q hq).off1 v (Nat.lt_trans hne (h.up q hq)), h.up, h.pw⟩
def szSt (left : Int) (tl kl : List (Ent × EntR)) : Int := if szEL left tl < 0 then -1 else if szEL (szEL left tl) kl < 0 then -1 else szEL (szEL left tl) kl
theorem szEs_le : ∀ (l : List (Ent × EntR)) (c : Int), c ≤ 1048576 → ¬ szEs c l < 0 → szEs c l ≤ c ∧ ∀ q ∈ l, EntFit q.1
  | [], c, _, _ => ⟨Int.le_refl _, fun q hq => by simp at hq⟩
  | q :: l, c, hc, h => by
    unfold szEs at h ⊢
    by_cases d : szE c q.1.key q.1.hs q.1.bl q.1.ts < 0
    · rw [if_pos d] at h; omega
    · rw [if_neg d] at h ⊢
      have r := szE_room hc d
      have z := szEs_le l _ (by omega) h
      refine ⟨by omega, fun p hp => ?_⟩
      rcases List.mem_cons.1 hp with rfl | hp
      · exact ⟨r.2.1, r.2.2.1, r.2.2.2.1⟩
      · exact z.2 p hp
theorem szEL_room {l : List (Ent × EntR)} {left : Int} (hc : left ≤ 1048576) (h : ¬ szEL left l < 0) : szEL left l ≤ left ∧ l.length ≤ 1048576 ∧ ∀ q ∈ l, EntFit q.1 := by
  unfold szEL at h ⊢
  by_cases d : left - (l.length : Int) < 0
  · rw [if_pos d] at h; omega
  · rw [if_neg d] at h ⊢
    have z := szEs_le l _ (by omega) h
    exact ⟨by omega, by omega, z.2⟩
set_option maxHeartbeats 4000000 in
theorem szStore_any (w : World) (bu gu : Int) (ta ka : Option Addr) (tc kc : Nat) (tl kl : List (Ent × EntR)) (left : Int) (h0 : 0 ≤ left) (h1 : left ≤ 1048576) (hl : tl.length ≤ maxLen) (hk : kl.length ≤ maxLen) (hz : ∀ q ∈ tl, EntSm q.1) (hy : ∀ q ∈ kl, EntSm q.1) (ht : EntsIn w ta tl) (hq : EntsIn w ka kl) :
    Calls Try.prog 4 #[.agg #[.int .i64 bu, .int .i64 gu, .slice ta tl.length tc, .slice ka kl.length kc], .int .i64 left] w fun r w' => r = .returned (.int .i64 (szSt left tl kl)) ∧ Below w.heap.size w w' := by
  have HK : Hid (Below w.heap.size w (w.alloc (.cells #[.int .i64 bu, .int .i64 gu, .slice ta tl.length tc, .slice ka kl.length kc] 24)) ∧ S4 (w.alloc (.cells #[.int .i64 bu, .int .i64 gu, .slice ta tl.length tc, .slice ka kl.length kc] 24)) w.heap.size (.int .i64 bu) (.int .i64 gu) (.slice ta tl.length tc) (.slice ka kl.length kc)) := ⟨(Below.refl _ _).alloc (Nat.le_refl _) _, S4.new w _ _ _ _ _⟩
  have H1 : Hid (∀ X, Below w.heap.size w X → Calls Try.prog 9 #[.slice ta tl.length tc, .int .i64 left] X fun e w' => e = .returned (.int .i64 (szEL left tl)) ∧ Below X.heap.size X w') := fun X hb => szEntryS_any X ta tc tl hl (ht.keep hb) hz left h0 h1
  have H2 : Hid (∀ X, Below w.heap.size w X → 0 ≤ szEL left tl → Calls Try.prog 9 #[.slice ka kl.length kc, .int .i64 (szEL left tl)] X fun e w' => e = .returned (.int .i64 (szEL (szEL left tl) kl)) ∧ Below X.heap.size X w') := fun X hb h => szEntryS_any X ka kc kl hk (hq.keep hb) hy _ h (by have := (szEL_room h1 (show ¬ szEL left tl < 0 from by omega)).1; omega)
  obtain ⟨Z, hZ⟩ : ∃ Z, szSt left tl kl = Z := ⟨_, rfl⟩
  rw [hZ]
  unfold szSt at hZ
  generalize szEL (szEL left tl) kl = z2 at *
  generalize szEL left tl = z1 at *
  clear ht hq hz hy hl hk
  generalize tl.length = tn at *
  generalize kl.length = kn at *
  have HZ : Hid (_ = Z) := hZ
  clear hZ
  have q2 := HK.out.2.c2
  go_enter Try.func4, Try.ntmps4
  go_wp2_with fail
  refine (H1.out _ HK.out.1).mono ?_
  rintro r w1 ⟨rfl, hb1⟩
  have K1 : Hid (Below w.heap.size w w1 ∧ S4 w1 w.heap.size (.int .i64 bu) (.int .i64 gu) (.slice ta tn tc) (.slice ka kn kc)) := ⟨HK.out.1.trans (hb1.mono HK.out.1.size), HK.out.2.keep hb1⟩
  clear hb1 q2 HK
  by_cases c1 : z1 < 0
  · have HR : Hid (-1 = Z) := by have := HZ.out; rw [if_pos c1] at this; exact this
    clear HZ
    go_wp2_with fail
    go_ret
    exact ⟨ret_int HR.out, K1.out.1⟩
  have HR : Hid ((if z2 < 0 then -1 else z2) = Z) := by have := HZ.out; rw [if_neg c1] at this; exact this
  clear HZ
  have q3 := K1.out.2.c3
  go_wp2_with fail
  refine (H2.out _ K1.out.1 (by omega)).mono ?_
  rintro r w2 ⟨rfl, hb2⟩
  have HB2 : Hid (Below w.heap.size w w2) := K1.out.1.trans (hb2.mono K1.out.1.size)
  clear hb2 q3 K1 H1 H2
  by_cases c2 : z2 < 0
  · have HS : Hid (-1 = Z) := by have := HR.out; rw [if_pos c2] at this; exact this
    clear HR
    go_wp2_with fail
    go_ret
    exact ⟨ret_int HS.out, HB2.out⟩
  · have HS : Hid (z2 = Z) := by have := HR.out; rw [if_neg c2] at this; exact this
    clear HR
    go_wp2_with fail
    go_ret
    exact ⟨ret_int HS.out, HB2.out⟩
/-- A store of one's own: its two lists, apart. -/
structure StoMine (W : World) (G1 G2 : Nat) (tl kl : List (Ent × EntR)) : Prop where
  t : EntsMine W G1 tl
  k : EntsMine W G2 kl
  lt : G1 < G2
  up : ∀ q ∈ tl, blk q.2.ta < G2
theorem StoMine.keep {W W' : World} {G1 G2 : Nat} {tl kl : List (Ent × EntR)} (h : StoMine W G1 G2 tl kl) (hb : Below W.heap.size W W') : StoMine W' G1 G2 tl kl := ⟨h.t.keep hb, h.k.keep hb, h.lt, h.up⟩
set_option maxHeartbeats 8000000 in
theorem toStore_any (w : World) (bu gu : Int) (ta ka : Option Addr) (tc kc : Nat) (tl kl : List (Ent × EntR)) (hl : tl.length ≤ 1048576) (hk : kl.length ≤ 1048576) (hz : ∀ q ∈ tl, EntFit q.1) (hy : ∀ q ∈ kl, EntFit q.1) (ht : EntsIn w ta tl) (hq : EntsIn w ka kl) :
    Calls Try.prog 6 #[.agg #[.int .i64 bu, .int .i64 gu, .slice ta tl.length tc, .slice ka kl.length kc]] w fun ee w' => (∃ G1 G2 tl' kl', ee = .returned (.agg #[.int .i64 bu, .int .i64 gu, .slice (some ⟨G1, 0, none⟩) tl.length tl.length, .slice (some ⟨G2, 0, none⟩) kl.length kl.length]) ∧ tl'.map Prod.fst = tl.map Prod.fst ∧ kl'.map Prod.fst = kl.map Prod.fst ∧ StoMine w' G1 G2 tl' kl' ∧ w.heap.size ≤ G1) ∧ Below w.heap.size w w' := by
  obtain ⟨W, hW⟩ : ∃ W, W = (((w.alloc (.cells #[.int .i64 bu, .int .i64 gu, .slice ta tl.length tc, .slice ka kl.length kc] 24)).alloc (.cells #[.int .i64 0, .int .i64 0, .slice none 0 0, .slice none 0 0] 29)).alloc (.cells #[.int .i64 bu, .int .i64 gu, .slice none 0 0, .slice none 0 0] 29)) := ⟨_, rfl⟩
  have HW : Hid (W = (((w.alloc (.cells #[.int .i64 bu, .int .i64 gu, .slice ta tl.length tc, .slice ka kl.length kc] 24)).alloc (.cells #[.int .i64 0, .int .i64 0, .slice none 0 0, .slice none 0 0] 29)).alloc (.cells #[.int .i64 bu, .int .i64 gu, .slice none 0 0, .slice none 0 0] 29))) := hW
  have bW : Below w.heap.size w W := by rw [hW]; exact (((Below.refl _ _).alloc (Nat.le_refl _) _).alloc (by simp) _).alloc (by simp; omega) _
  have hsz : W.heap.size = w.heap.size + 3 := by rw [hW]; simp
  have f2 : S4 W (w.heap.size + 2) (.int .i64 bu) (.int .i64 gu) (.slice none 0 0) (.slice none 0 0) := by
    rw [hW]
    have := S4.new ((w.alloc (.cells #[.int .i64 bu, .int .i64 gu, .slice ta tl.length tc, .slice ka kl.length kc] 24)).alloc (.cells #[.int .i64 0, .int .i64 0, .slice none 0 0, .slice none 0 0] 29)) (.int .i64 bu) (.int .i64 gu) (.slice none 0 0) (.slice none 0 0) 29
    simpa using this
  have f1 : S4 W (w.heap.size + 1) (.int .i64 0) (.int .i64 0) (.slice none 0 0) (.slice none 0 0) := by
    rw [hW]
    have := (S4.new (w.alloc (.cells #[.int .i64 bu, .int .i64 gu, .slice ta tl.length tc, .slice ka kl.length kc] 24)) (.int .i64 0) (.int .i64 0) (.slice none 0 0) (.slice none 0 0) 29).keep ((Below.refl _ _).alloc (Nat.le_refl _) (.cells #[.int .i64 bu, .int .i64 gu, .slice none 0 0, .slice none 0 0] 29))
    simpa using this
  have f0 : S4 W w.heap.size (.int .i64 bu) (.int .i64 gu) (.slice ta tl.length tc) (.slice ka kl.length kc) := by
    rw [hW]
    exact ((S4.new w (.int .i64 bu) (.int .i64 gu) (.slice ta tl.length tc) (.slice ka kl.length kc) 24).keep ((Below.refl _ _).alloc (Nat.le_refl _) _)).keep ((Below.refl _ _).alloc (Nat.le_refl _) _)
  have K0 : Hid (Below w.heap.size w W ∧ S4 W w.heap.size (.int .i64 bu) (.int .i64 gu) (.slice ta tl.length tc) (.slice ka kl.length kc) ∧ S4 W (w.heap.size + 1) (.int .i64 0) (.int .i64 0) (.slice none 0 0) (.slice none 0 0) ∧ S4 W (w.heap.size + 2) (.int .i64 bu) (.int .i64 gu) (.slice none 0 0) (.slice none 0 0) ∧ W.heap.size = w.heap.size + 3) := ⟨bW, f0, f1, f2, hsz⟩
  have C1 : Hid (Calls Try.prog 11 #[.slice ta tl.length tc] W fun e w' => e = .returned (.slice (some ⟨w.heap.size + 3, 0, none⟩) tl.length tl.length) ∧ (∃ l', l'.map Prod.fst = tl.map Prod.fst ∧ EntsMine w' (w.heap.size + 3) l') ∧ Below W.heap.size W w') := by
    have := toEntryS_any W ta tc tl hl (ht.keep bW) hz
    rw [hsz] at this ⊢
    exact this
  have C2 : Hid (∀ X, Below w.heap.size w X → Calls Try.prog 11 #[.slice ka kl.length kc] X fun e w' => e = .returned (.slice (some ⟨X.heap.size, 0, none⟩) kl.length kl.length) ∧ (∃ l', l'.map Prod.fst = kl.map Prod.fst ∧ EntsMine w' X.heap.size l') ∧ Below X.heap.size X w') := fun X hb => toEntryS_any X ka kc kl hk (hq.keep hb) hy
  clear hW bW f0 f1 f2 hsz ht hq hz hy hl hk
  generalize tl.map Prod.fst = tm at *
  generalize kl.map Prod.fst = km at *
  generalize tl.length = tn at *
  generalize kl.length = kn at *
  go_enter Try.func6, Try.ntmps6
  go_wp2_with fail
  rw [← HW.out]
  refine C1.out.mono ?_
  rintro r w1 ⟨rfl, ⟨tl', et, mt⟩, hb1⟩
  have hsz1 : w.heap.size + 3 ≤ w1.heap.size := by have := hb1.size; rw [K0.out.2.2.2.2] at this; exact this
  obtain ⟨V, hV⟩ : ∃ V, V = w1.setCell ⟨w.heap.size + 2, 2, none⟩ (.slice (some ⟨w.heap.size + 3, 0, none⟩) tn tn) := ⟨_, rfl⟩
  have HV : Hid (V = w1.setCell ⟨w.heap.size + 2, 2, none⟩ (.slice (some ⟨w.heap.size + 3, 0, none⟩) tn tn)) := hV
  have K1 : Hid (Below w.heap.size w V ∧ S4 V w.heap.size (.int .i64 bu) (.int .i64 gu) (.slice ta tn tc) (.slice ka kn kc) ∧ S4 V (w.heap.size + 1) (.int .i64 0) (.int .i64 0) (.slice none 0 0) (.slice none 0 0) ∧ S4 V (w.heap.size + 2) (.int .i64 bu) (.int .i64 gu) (.slice (some ⟨w.heap.size + 3, 0, none⟩) tn tn) (.slice none 0 0) ∧ w.heap.size + 3 ≤ V.heap.size ∧ EntsMine V (w.heap.size + 3) tl') := by
    rw [hV]
    exact ⟨(K0.out.1.trans (hb1.mono K0.out.1.size)).setCell (by simp) _, (K0.out.2.1.keep hb1).off (by omega), (K0.out.2.2.1.keep hb1).off (by omega), (K0.out.2.2.2.1.keep hb1).set2 _, by simpa using hsz1, mt.off1 _ (by omega)⟩
  have k2 := (K0.out.2.2.2.1.keep hb1).c2
  have k2f := (K0.out.2.2.2.1.keep hb1).fr 2
  have q3 := (K0.out.2.1.keep hb1).c3
  clear hV hb1 K0 C1 HW mt hsz1
  go_wp2_with fail
  rw [← HV.out]
  clear HV k2 k2f
  refine (C2.out _ K1.out.1).mono ?_
  rintro r w2 ⟨rfl, ⟨kl', ek, mk⟩, hb2⟩
  have hsz2 := hb2.size
  have hszV := K1.out.2.2.2.2.1
  have z1 := K1.out.2.2.1.keep hb2
  have z2 := K1.out.2.2.2.1.keep hb2
  have m1 := K1.out.2.2.2.2.2.keep hb2
  have hup : ∀ q ∈ tl', blk q.2.ta < V.heap.size := fun q hq => (K1.out.2.2.2.2.2.own q hq).lt
  have bb := K1.out.1.trans (hb2.mono K1.out.1.size)
  obtain ⟨G2, hG⟩ : ∃ G, V.heap.size = G := ⟨_, rfl⟩
  rw [hG] at mk hup hszV ⊢
  have FIN : Hid (∀ x3 y0 y1 y2 y3, StoMine (((((w2.setCell ⟨w.heap.size + 2, 3, none⟩ x3).setCell ⟨w.heap.size + 1, 0, none⟩ y0).setCell ⟨w.heap.size + 1, 1, none⟩ y1).setCell ⟨w.heap.size + 1, 2, none⟩ y2).setCell ⟨w.heap.size + 1, 3, none⟩ y3) (w.heap.size + 3) G2 tl' kl' ∧ Below w.heap.size w (((((w2.setCell ⟨w.heap.size + 2, 3, none⟩ x3).setCell ⟨w.heap.size + 1, 0, none⟩ y0).setCell ⟨w.heap.size + 1, 1, none⟩ y1).setCell ⟨w.heap.size + 1, 2, none⟩ y2).setCell ⟨w.heap.size + 1, 3, none⟩ y3)) := by
    intro x3 y0 y1 y2 y3
    refine ⟨⟨((((m1.off1 _ (by omega)).off1 _ (by omega)).off1 _ (by omega)).off1 _ (by omega)).off1 _ (by omega), ((((mk.off1 _ (by omega)).off1 _ (by omega)).off1 _ (by omega)).off1 _ (by omega)).off1 _ (by omega), ?_, hup⟩, ((((bb.setCell (by simp) _).setCell (by simp) _).setCell (by simp) _).setCell (by simp) _).setCell (by simp) _⟩
    have := m1.lt
    have := K1.out.2.2.2.2.2.lt
    omega
  have ET : Hid (tl'.map Prod.fst = tm ∧ kl'.map Prod.fst = km) := ⟨et, ek⟩
  have a3 := z2.c3
  have a0 := z2.c0
  have a1 := z2.c1
  have a2 := z2.c2
  have af := z2.fr 3
  have r0 := z1.c0
  have r1 := z1.c1
  have r2 := z1.c2
  have r3 := z1.c3
  have rf0 := z1.fr 0
  have rf1 := z1.fr 1
  have rf2 := z1.fr 2
  have rf3 := z1.fr 3
  clear hb2 hsz2 mk m1 hup bb z1 z2 K1 C2 q3 et ek hszV hG
  go_wp2_with fail
  exact bodyPost_ret (v := .agg #[.int .i64 bu, .int .i64 gu, .slice (some ⟨w.heap.size + 3, 0, none⟩) tn tn, .slice (some ⟨G2, 0, none⟩) kn kn]) (by simp [results, Try.results6, go_sem, r0, r1, r2, r3]) rfl ⟨⟨_, _, tl', kl', rfl, ET.out.1, ET.out.2, (FIN.out _ _ _ _ _).1, by omega⟩, (FIN.out _ _ _ _ _).2⟩
set_option maxHeartbeats 4000000 in
theorem eqStore_same (w : World) (bu gu : Int) (ta1 ta2 ka1 ka2 : Option Addr) (tc1 tc2 kc1 kc2 : Nat) (tl tm kl km : List (Ent × EntR)) (hl : tl.length ≤ 1048576) (hk : kl.length ≤ 1048576) (hf : ∀ q ∈ tl, EntFit q.1) (hg : ∀ q ∈ kl, EntFit q.1) (et : tl.map Prod.fst = tm.map Prod.fst) (ek : kl.map Prod.fst = km.map Prod.fst) (h1 : EntsIn w ta1 tl) (h2 : EntsIn w ta2 tm) (h3 : EntsIn w ka1 kl) (h4 : EntsIn w ka2 km) :
    Calls Try.prog 8 #[.agg #[.int .i64 bu, .int .i64 gu, .slice ta1 tl.length tc1, .slice ka1 kl.length kc1], .agg #[.int .i64 bu, .int .i64 gu, .slice ta2 tl.length tc2, .slice ka2 kl.length kc2]] w fun r w' => r = .returned (.bool true) ∧ Below w.heap.size w w' := by
  have H1 : Hid (∀ X, Below w.heap.size w X → Calls Try.prog 14 #[.slice ta1 tl.length tc1, .slice ta2 tl.length tc2] X fun e w' => e = .returned (.bool true) ∧ Below X.heap.size X w') := fun X hb => eqEntryS_same X ta1 ta2 tc1 tc2 tl tm hl hf et (h1.keep hb) (h2.keep hb)
  have H2 : Hid (∀ X, Below w.heap.size w X → Calls Try.prog 14 #[.slice ka1 kl.length kc1, .slice ka2 kl.length kc2] X fun e w' => e = .returned (.bool true) ∧ Below X.heap.size X w') := fun X hb => eqEntryS_same X ka1 ka2 kc1 kc2 kl km hk hg ek (h3.keep hb) (h4.keep hb)
  clear h1 h2 h3 h4 hf hg et ek hl hk
  generalize tl.length = tn at *
  generalize kl.length = kn at *
  obtain ⟨V, hV⟩ : ∃ X, X = (w.alloc (.cells #[.int .i64 bu, .int .i64 gu, .slice ta1 tn tc1, .slice ka1 kn kc1] 29)).alloc (.cells #[.int .i64 bu, .int .i64 gu, .slice ta2 tn tc2, .slice ka2 kn kc2] 29) := ⟨_, rfl⟩
  have HV : Hid (V = (w.alloc (.cells #[.int .i64 bu, .int .i64 gu, .slice ta1 tn tc1, .slice ka1 kn kc1] 29)).alloc (.cells #[.int .i64 bu, .int .i64 gu, .slice ta2 tn tc2, .slice ka2 kn kc2] 29)) := hV
  have K0 : Hid (Below w.heap.size w V ∧ S4 V w.heap.size (.int .i64 bu) (.int .i64 gu) (.slice ta1 tn tc1) (.slice ka1 kn kc1) ∧ S4 V (w.heap.size + 1) (.int .i64 bu) (.int .i64 gu) (.slice ta2 tn tc2) (.slice ka2 kn kc2)) := by
    rw [hV]
    refine ⟨((Below.refl _ _).alloc (Nat.le_refl _) _).alloc (by simp) _, (S4.new w _ _ _ _ _).keep ((Below.refl _ _).alloc (Nat.le_refl _) _), ?_⟩
    have := S4.new (w.alloc (.cells #[.int .i64 bu, .int .i64 gu, .slice ta1 tn tc1, .slice ka1 kn kc1] 29)) (.int .i64 bu) (.int .i64 gu) (.slice ta2 tn tc2) (.slice ka2 kn kc2) 29
    simpa using this
  clear hV
  go_enter Try.func8, Try.ntmps8
  go_wp2_with fail
  rw [← HV.out]
  clear HV
  refine (H1.out _ K0.out.1).mono ?_
  rintro r w1 ⟨rfl, hb1⟩
  have B1 : Hid (Below w.heap.size w w1) := K0.out.1.trans (hb1.mono K0.out.1.size)
  have k1 := (K0.out.2.1.keep hb1).c3
  have k2 := (K0.out.2.2.keep hb1).c3
  clear hb1 K0 H1
  go_wp2_with fail
  refine (H2.out _ B1.out).mono ?_
  rintro r w2 ⟨rfl, hb2⟩
  have B2 : Hid (Below w.heap.size w w2) := B1.out.trans (hb2.mono B1.out.size)
  clear hb2 k1 k2 H2 B1
  go_wp2_with fail
  go_ret
  exact ⟨rfl, B2.out⟩
end Go.Proofs.Ytapnjbdlljnnhaa
