/-
  Texts of one claim, one behind the other.
-/
import Derived.Deep.RegionHeld3
import Derived.Test.YtmidfgjnaebfiaaGreatDoorDrA
/-
  PurgeKey, PurgeTag, PurgeAll, by the model.
-/
namespace Go.Proofs.YtmidfgjnaebfiaaGreatDoor
open Go.ChangeShapes Go.WideShapes Go.ChangeAt Go.RowKit Go.Sort
open Classical in
noncomputable def purA (bu gu : Int) (tl kl : List Ent) (p : Ent → Bool) (hard : Bool) : QAns :=
  if storeC bu gu tl kl ≠ 0 then badQ (storeC bu gu tl kl) else ⟨0, bu, gu, resE hard p tl, resE hard p kl, keysP p (tl ++ kl)⟩
theorem key_same {L : List Ent} (hn : NdK L) {x y : Ent} (hx : x ∈ L) (hy : y ∈ L) (e : x.key = y.key) : x = y := by
  unfold NdK keysE at hn
  obtain ⟨i, hi, rfl⟩ := List.mem_iff_getElem.1 hx
  obtain ⟨j, hj, rfl⟩ := List.mem_iff_getElem.1 hy
  have := (List.getElem_inj (xs := L.map fun x => x.key.toList) (h₀ := by simpa using hi) (h₁ := by simpa using hj) hn).1 (by simp [e])
  subst this
  rfl
theorem inK_keysP {p : Ent → Bool} {L : List Ent} (hn : NdK L) {x : Ent} (hx : x ∈ L) : inK (keysP p L) x = p x := by
  unfold inK tagB keysP
  rw [List.any_map]
  cases hp : p x
  · rw [← Bool.not_eq_true]
    intro h
    obtain ⟨y, hy, e⟩ := List.any_eq_true.1 h
    obtain ⟨hy1, hy2⟩ := List.mem_filter.1 hy
    have e' : y.key = x.key := by simpa using e
    rw [key_same hn hy1 hx e'] at hy2
    rw [hp] at hy2
    cases hy2
  · exact List.any_eq_true.2 ⟨x, List.mem_filter.2 ⟨hx, hp⟩, by simp⟩
theorem resE_congr {hard : Bool} {p q : Ent → Bool} {L : List Ent} (h : ∀ x ∈ L, p x = q x) : resE hard p L = resE hard q L := by
  cases hard
  · exact List.map_congr_left fun x hx => by simp [h x hx]
  · exact List.filter_congr fun x hx => by simp [h x hx]
theorem resE_keys {hard : Bool} {p : Ent → Bool} {tl kl : List Ent} (hn : NdK (tl ++ kl)) : resE hard (inK (keysP p (tl ++ kl))) tl = resE hard p tl ∧ resE hard (inK (keysP p (tl ++ kl))) kl = resE hard p kl :=
  ⟨resE_congr fun _ hx => inK_keysP hn (List.mem_append_left _ hx), resE_congr fun _ hx => inK_keysP hn (List.mem_append_right _ hx)⟩
theorem PurAns.off6 {w' : World} {A : QAns} {base b : Nat} {r : QR} (h : QSto w' base w'.heap.size r A.t A.k A.g) (hb : b < base) (u0 u1 u2 u3 u4 u5 : Value) : QSto ((((((w'.setCell ⟨b, 0, none⟩ u0).setCell ⟨b, 1, none⟩ u1).setCell ⟨b, 2, none⟩ u2).setCell ⟨b, 3, none⟩ u3).setCell ⟨b, 4, none⟩ u4).setCell ⟨b, 5, none⟩ u5) base ((((((w'.setCell ⟨b, 0, none⟩ u0).setCell ⟨b, 1, none⟩ u1).setCell ⟨b, 2, none⟩ u2).setCell ⟨b, 3, none⟩ u3).setCell ⟨b, 4, none⟩ u4).setCell ⟨b, 5, none⟩ u5).heap.size r A.t A.k A.g := by
  obtain ⟨m1, m2, e1, e2, h1, h2, h3, h4⟩ := h
  have hO := ((((((h1.off1 (i := 0) u0 hb).off1 (i := 1) u1 hb).off1 (i := 2) u2 hb).off1 (i := 3) u3 hb).off1 (i := 4) u4 hb).off1 (i := 5) u5 hb)
  have o : Out [b] w' ((((((w'.setCell ⟨b, 0, none⟩ u0).setCell ⟨b, 1, none⟩ u1).setCell ⟨b, 2, none⟩ u2).setCell ⟨b, 3, none⟩ u3).setCell ⟨b, 4, none⟩ u4).setCell ⟨b, 5, none⟩ u5) := (((((Out.set w' b 0 u0).trans (Out.set _ b 1 u1)).trans (Out.set _ b 2 u2)).trans (Out.set _ b 3 u3)).trans (Out.set _ b 4 u4)).trans (Out.set _ b 5 u5)
  exact QSto.mk e1 e2 hO (h3.out o (fun q e hm => by simp at hm; subst hm; have := (h4 _ e).1; omega)) (fun q e => ⟨(h4 q e).1, (h4 q e).2.2.1, (h4 q e).2.2.2⟩)
theorem QSto.lower {W : World} {b0 base hi : Nat} {r : QR} {L1 L2 : List Ent} {G : List ByteArray} (h : QSto W base hi r L1 L2 G) (hb : b0 ≤ base) : QSto W b0 hi r L1 L2 G := by
  obtain ⟨m1, m2, e1, e2, h1, h2, h3, h4⟩ := h
  exact ⟨m1, m2, e1, e2, h1.lower hb, h2, h3, fun b e => ⟨Nat.le_trans hb (h4 b e).1, (h4 b e).2⟩⟩
set_option maxRecDepth 100000 in
set_option maxHeartbeats 16000000 in
theorem specPurgeTag_any (w : World) (bu gu : Int) (ta ka : Option Addr) (tc kc : Nat) (tl kl : List (Ent × EntR)) (tag : ByteArray) (hard : Bool) (hl : tl.length ≤ 1048576) (hk : kl.length ≤ 1048576) (hto : ∀ q ∈ tl ++ kl, EntOk q.1) (hft : ∀ q ∈ tl ++ kl, EntFit q.1) (ht : EntsIn w ta tl) (hq : EntsIn w ka kl) :
    Calls Tryz.prog 46 #[.agg #[.int .i64 bu, .int .i64 gu, .slice ta tl.length tc, .slice ka kl.length kc], .string tag, .bool hard] w fun e w' => PurAns (purA bu gu (tl.map Prod.fst) (kl.map Prod.fst) (tagP tag) hard) w.heap.size e w' ∧ Below w.heap.size w w' := by
  have HF : Hid (∀ X, Below w.heap.size w X → Calls Tryz.prog 54 #[.agg #[.int .i64 bu, .int .i64 gu, .slice ta tl.length tc, .slice ka kl.length kc]] X fun r w' => r = .returned (.int .i64 (storeC bu gu (tl.map Prod.fst) (kl.map Prod.fst))) ∧ Below X.heap.size X w') := fun X hb => specSto_any X bu gu ta ka tc kc tl kl hl hk hto (ht.keep hb) (hq.keep hb)
  have HT : Hid (storeC bu gu (tl.map Prod.fst) (kl.map Prod.fst) = 0 → ∀ X, Below w.heap.size w X → X.cell? ⟨w.heap.size, 2, none⟩ = some (.slice ta tl.length tc) → X.cell? ⟨w.heap.size, 3, none⟩ = some (.slice ka kl.length kc) → Calls Tryz.prog 109 #[.pointer (some ⟨w.heap.size, 0, none⟩), .string tag] X fun e w' => (∃ a n k, e = .returned (.slice a n k) ∧ RowT w' X.heap.size (.slice a n k) (keysP (tagP tag) (tl.map Prod.fst ++ kl.map Prod.fst))) ∧ Below X.heap.size X w') := fun h0 X hX c2 c3 => by
    have hln : tl.length + kl.length ≤ 1000000 := by have := (storeC_zero h0).2.1; rw [List.length_map, List.length_map] at this; omega
    refine (l9Tagged_at X w.heap.size tag ta ka tc kc tl kl c2 c3 hln hft (ht.keep hX) (hq.keep hX)).mono ?_
    rintro e w' ⟨⟨v, rfl, ho⟩, hb⟩
    obtain ⟨va, vc, rfl, _⟩ := row_form ho
    exact ⟨⟨va, _, vc, rfl, ho⟩, hb⟩
  have HD : Hid (storeC bu gu (tl.map Prod.fst) (kl.map Prod.fst) = 0 → ∀ X kb a n k, Below w.heap.size w X → S4 X w.heap.size (.int .i64 bu) (.int .i64 gu) (.slice ta tl.length tc) (.slice ka kl.length kc) → RowT X kb (.slice a n k) (keysP (tagP tag) (tl.map Prod.fst ++ kl.map Prod.fst)) → kb ≤ X.heap.size → Calls Tryz.prog 105 #[.pointer (some ⟨w.heap.size, 0, none⟩), .slice a n k, .bool hard] X fun e w' => (∃ r : QR, e = .returned (.agg #[.int .i64 0, .int .i64 bu, .int .i64 gu, .slice r.s.a1 r.s.n1 r.s.k1, .slice r.s.a2 r.s.n2 r.s.k2, .slice r.a3 r.n3 r.k3]) ∧ QSto w' kb w'.heap.size r (resE hard (tagP tag) (tl.map Prod.fst)) (resE hard (tagP tag) (kl.map Prod.fst)) (keysP (tagP tag) (tl.map Prod.fst ++ kl.map Prod.fst))) ∧ Below X.heap.size X w') := fun h0 X kb a n k hX hs hr hkb => by
    have hln : tl.length + kl.length ≤ 40 := by have := (storeC_zero h0).2.1; rw [List.length_map, List.length_map] at this; omega
    have hkl : (keysP (tagP tag) (tl.map Prod.fst ++ kl.map Prod.fst)).length ≤ 1000 := by
      have := keysP_len (tagP tag) (tl.map Prod.fst ++ kl.map Prod.fst)
      rw [List.length_append, List.length_map, List.length_map] at this
      omega
    have := l9Do_at X w.heap.size kb bu gu ta ka tc kc tl kl a n k _ hard hs hln hft (ht.keep hX) (hq.keep hX) hkl hr hkb
    rw [(resE_keys (storeC_nd h0)).1, (resE_keys (storeC_nd h0)).2] at this
    exact this
  obtain ⟨W, hW⟩ : ∃ W, W = (w.alloc (.cells #[.int .i64 bu, .int .i64 gu, .slice ta tl.length tc, .slice ka kl.length kc] 38)).alloc (.cells #[.int .i64 0, .int .i64 0, .int .i64 0, .slice none 0 0, .slice none 0 0, .slice none 0 0] 67) := ⟨_, rfl⟩
  have HW : Hid (W = (w.alloc (.cells #[.int .i64 bu, .int .i64 gu, .slice ta tl.length tc, .slice ka kl.length kc] 38)).alloc (.cells #[.int .i64 0, .int .i64 0, .int .i64 0, .slice none 0 0, .slice none 0 0, .slice none 0 0] 67)) := hW
  have K0 : Hid (Below w.heap.size w W ∧ S4 W w.heap.size (.int .i64 bu) (.int .i64 gu) (.slice ta tl.length tc) (.slice ka kl.length kc) ∧ S6 W (w.heap.size + 1) (.int .i64 0) (.int .i64 0) (.int .i64 0) (.slice none 0 0) (.slice none 0 0) (.slice none 0 0) ∧ w.heap.size + 2 ≤ W.heap.size) := by
    rw [hW]
    refine ⟨((Below.refl _ _).alloc (Nat.le_refl _) _).alloc (by simp) _, (S4.new w _ _ _ _ _).keep ((Below.refl _ _).alloc (Nat.le_refl _) _), ?_, by simp⟩
    have := S6.new (w.alloc (.cells #[.int .i64 bu, .int .i64 gu, .slice ta tl.length tc, .slice ka kl.length kc] 38)) (.int .i64 0) (.int .i64 0) (.int .i64 0) (.slice none 0 0) (.slice none 0 0) (.slice none 0 0) 67
    simpa using this
  obtain ⟨A, hA⟩ : ∃ A, purA bu gu (tl.map Prod.fst) (kl.map Prod.fst) (tagP tag) hard = A := ⟨_, rfl⟩
  rw [hA]
  unfold purA at hA
  have HA : Hid (_ = A) := hA
  have e0 := K0.out.2.1.c0
  have e1 := K0.out.2.1.c1
  have e2 := K0.out.2.1.c2
  have e3 := K0.out.2.1.c3
  rw [HW.out] at e0 e1 e2 e3
  clear hW hl hk hto hft ht hq hA
  generalize storeC bu gu (tl.map Prod.fst) (kl.map Prod.fst) = sc at *
  generalize resE hard (tagP tag) (tl.map Prod.fst) = R1 at *
  generalize resE hard (tagP tag) (kl.map Prod.fst) = R2 at *
  generalize keysP (tagP tag) (tl.map Prod.fst ++ kl.map Prod.fst) = KS at *
  generalize tl.length = tn at *
  generalize kl.length = kn at *
  go_enter Tryz.func46, Tryz.ntmps46
  go_wp2_with fail
  rw [← HW.out]
  refine (HF.out _ K0.out.1).mono ?_
  rintro r0 w1 ⟨rfl, hb1⟩
  have K1 : Hid (Below w.heap.size w w1 ∧ S4 w1 w.heap.size (.int .i64 bu) (.int .i64 gu) (.slice ta tn tc) (.slice ka kn kc) ∧ S6 w1 (w.heap.size + 1) (.int .i64 0) (.int .i64 0) (.int .i64 0) (.slice none 0 0) (.slice none 0 0) (.slice none 0 0) ∧ w.heap.size + 2 ≤ w1.heap.size) := ⟨K0.out.1.trans (hb1.mono K0.out.1.size), K0.out.2.1.keep hb1, K0.out.2.2.1.keep hb1, by have := K0.out.2.2.2; have := hb1.size; omega⟩
  clear K0 HW hb1 HF e0 e1 e2 e3
  by_cases cs : sc = 0
  · subst cs
    have HAe : Hid (A = ⟨0, bu, gu, R1, R2, KS⟩) := by have := HA.out; simp only [ne_eq, not_true_eq_false, if_false] at this; exact this.symm
    have HT1 := HT.out rfl
    have HD1 := HD.out rfl
    clear HA HT HD
    go_wp2_with fail
    refine (HT1 _ K1.out.1 K1.out.2.1.c2 K1.out.2.1.c3).mono ?_
    rintro r0 w2 ⟨⟨a, n, k, rfl, ho⟩, hb2⟩
    have CD := HD1 w2 w1.heap.size a n k (K1.out.1.trans (hb2.mono K1.out.1.size)) (K1.out.2.1.keep hb2) ho hb2.size
    have K2 : Hid (Below w.heap.size w w2 ∧ S6 w2 (w.heap.size + 1) (.int .i64 0) (.int .i64 0) (.int .i64 0) (.slice none 0 0) (.slice none 0 0) (.slice none 0 0) ∧ w.heap.size + 2 ≤ w1.heap.size) := ⟨K1.out.1.trans (hb2.mono K1.out.1.size), K1.out.2.2.1.keep hb2, K1.out.2.2.2⟩
    clear K1 HT1 HD1 ho hb2
    go_wp2_with fail
    refine CD.mono ?_
    rintro r0 w3 ⟨⟨r, rfl, hQ⟩, hb3⟩
    have HQ : Hid (QSto w3 w1.heap.size w3.heap.size r R1 R2 KS) := hQ
    have HB : Hid (Below w.heap.size w w3 ∧ w.heap.size + 1 < w1.heap.size) := ⟨K2.out.1.trans (hb3.mono K2.out.1.size), by have := K2.out.2.2; omega⟩
    have hs6 := K2.out.2.1.keep hb3
    have z0 := hs6.c0
    have z1 := hs6.c1
    have z2 := hs6.c2
    have z3 := hs6.c3
    have z4 := hs6.c4
    have z5 := hs6.c5
    have zf0 := hs6.fr 0
    have zf1 := hs6.fr 1
    have zf2 := hs6.fr 2
    have zf3 := hs6.fr 3
    have zf4 := hs6.fr 4
    have zf5 := hs6.fr 5
    clear hs6 hQ hb3 K2 CD
    go_wp2_with fail
    refine bodyPost_ret (v := .agg #[.int .i64 0, .int .i64 bu, .int .i64 gu, .slice r.s.a1 r.s.n1 r.s.k1, .slice r.s.a2 r.s.n2 r.s.k2, .slice r.a3 r.n3 r.k3]) (by simp [results, Tryz.results46, go_sem, z0, z1, z2, z3, z4, z5]) rfl ?_
    refine ⟨PurAns.of ⟨r, rfl, QSto.lower (PurAns.off6 (A := ⟨0, bu, gu, R1, R2, KS⟩) HQ.out HB.out.2 _ _ _ _ _ _) (by have := HB.out.2; omega)⟩ HAe.out, ?_⟩
    exact (((((HB.out.1.setCell (by simp) _).setCell (by simp) _).setCell (by simp) _).setCell (by simp) _).setCell (by simp) _).setCell (by simp) _
  · have HAe : Hid (A = badQ sc) := by have := HA.out; rw [if_pos cs] at this; exact this.symm
    have z0 := K1.out.2.2.1.c0
    have z1 := K1.out.2.2.1.c1
    have z2 := K1.out.2.2.1.c2
    have z3 := K1.out.2.2.1.c3
    have z4 := K1.out.2.2.1.c4
    have z5 := K1.out.2.2.1.c5
    have zf0 := K1.out.2.2.1.fr 0
    have zf1 := K1.out.2.2.1.fr 1
    have zf2 := K1.out.2.2.1.fr 2
    have zf3 := K1.out.2.2.1.fr 3
    have zf4 := K1.out.2.2.1.fr 4
    have zf5 := K1.out.2.2.1.fr 5
    have HB : Hid (Below w.heap.size w w1) := K1.out.1
    clear HA K1 HT HD
    go_wp2_with fail
    refine bodyPost_ret (v := .agg #[.int .i64 sc, .int .i64 0, .int .i64 0, .slice none 0 0, .slice none 0 0, .slice none 0 0]) (by simp [results, Tryz.results46, go_sem, z0, z1, z2, z3, z4, z5]) rfl ?_
    exact ⟨(PurAns.bad _ _ _).of HAe.out, (((((HB.out.setCell (by simp) _).setCell (by simp) _).setCell (by simp) _).setCell (by simp) _).setCell (by simp) _).setCell (by simp) _⟩
set_option maxRecDepth 100000 in
set_option maxHeartbeats 16000000 in
theorem specPurgeKey_any (w : World) (bu gu : Int) (ta ka : Option Addr) (tc kc : Nat) (tl kl : List (Ent × EntR)) (key : ByteArray) (hard : Bool) (hl : tl.length ≤ 1048576) (hk : kl.length ≤ 1048576) (hto : ∀ q ∈ tl ++ kl, EntOk q.1) (hft : ∀ q ∈ tl ++ kl, EntFit q.1) (ht : EntsIn w ta tl) (hq : EntsIn w ka kl) :
    Calls Tryz.prog 41 #[.agg #[.int .i64 bu, .int .i64 gu, .slice ta tl.length tc, .slice ka kl.length kc], .string key, .bool hard] w fun e w' => PurAns (purA bu gu (tl.map Prod.fst) (kl.map Prod.fst) (isKey key) hard) w.heap.size e w' ∧ Below w.heap.size w w' := by
  have HF : Hid (∀ X, Below w.heap.size w X → Calls Tryz.prog 54 #[.agg #[.int .i64 bu, .int .i64 gu, .slice ta tl.length tc, .slice ka kl.length kc]] X fun r w' => r = .returned (.int .i64 (storeC bu gu (tl.map Prod.fst) (kl.map Prod.fst))) ∧ Below X.heap.size X w') := fun X hb => specSto_any X bu gu ta ka tc kc tl kl hl hk hto (ht.keep hb) (hq.keep hb)
  have HT : Hid (storeC bu gu (tl.map Prod.fst) (kl.map Prod.fst) = 0 → ∀ X, Below w.heap.size w X → X.cell? ⟨w.heap.size, 2, none⟩ = some (.slice ta tl.length tc) → X.cell? ⟨w.heap.size, 3, none⟩ = some (.slice ka kl.length kc) → Calls Tryz.prog 106 #[.pointer (some ⟨w.heap.size, 0, none⟩), .string key] X fun e w' => (∃ a n k, e = .returned (.slice a n k) ∧ RowT w' X.heap.size (.slice a n k) (keysP (isKey key) (tl.map Prod.fst ++ kl.map Prod.fst))) ∧ Below X.heap.size X w') := fun h0 X hX c2 c3 => by
    have hln : tl.length + kl.length ≤ 1000000 := by have := (storeC_zero h0).2.1; rw [List.length_map, List.length_map] at this; omega
    refine (l9Keys_at X w.heap.size key ta ka tc kc tl kl c2 c3 hln hft (ht.keep hX) (hq.keep hX) (storeC_nd h0)).mono ?_
    rintro e w' ⟨⟨v, rfl, ho⟩, hb⟩
    obtain ⟨va, vc, rfl, _⟩ := row_form ho
    exact ⟨⟨va, _, vc, rfl, ho⟩, hb⟩
  have HD : Hid (storeC bu gu (tl.map Prod.fst) (kl.map Prod.fst) = 0 → ∀ X kb a n k, Below w.heap.size w X → S4 X w.heap.size (.int .i64 bu) (.int .i64 gu) (.slice ta tl.length tc) (.slice ka kl.length kc) → RowT X kb (.slice a n k) (keysP (isKey key) (tl.map Prod.fst ++ kl.map Prod.fst)) → kb ≤ X.heap.size → Calls Tryz.prog 105 #[.pointer (some ⟨w.heap.size, 0, none⟩), .slice a n k, .bool hard] X fun e w' => (∃ r : QR, e = .returned (.agg #[.int .i64 0, .int .i64 bu, .int .i64 gu, .slice r.s.a1 r.s.n1 r.s.k1, .slice r.s.a2 r.s.n2 r.s.k2, .slice r.a3 r.n3 r.k3]) ∧ QSto w' kb w'.heap.size r (resE hard (isKey key) (tl.map Prod.fst)) (resE hard (isKey key) (kl.map Prod.fst)) (keysP (isKey key) (tl.map Prod.fst ++ kl.map Prod.fst))) ∧ Below X.heap.size X w') := fun h0 X kb a n k hX hs hr hkb => by
    have hln : tl.length + kl.length ≤ 40 := by have := (storeC_zero h0).2.1; rw [List.length_map, List.length_map] at this; omega
    have hkl : (keysP (isKey key) (tl.map Prod.fst ++ kl.map Prod.fst)).length ≤ 1000 := by
      have := keysP_len (isKey key) (tl.map Prod.fst ++ kl.map Prod.fst)
      rw [List.length_append, List.length_map, List.length_map] at this
      omega
    have := l9Do_at X w.heap.size kb bu gu ta ka tc kc tl kl a n k _ hard hs hln hft (ht.keep hX) (hq.keep hX) hkl hr hkb
    rw [(resE_keys (storeC_nd h0)).1, (resE_keys (storeC_nd h0)).2] at this
    exact this
  obtain ⟨W, hW⟩ : ∃ W, W = (w.alloc (.cells #[.int .i64 bu, .int .i64 gu, .slice ta tl.length tc, .slice ka kl.length kc] 38)).alloc (.cells #[.int .i64 0, .int .i64 0, .int .i64 0, .slice none 0 0, .slice none 0 0, .slice none 0 0] 67) := ⟨_, rfl⟩
  have HW : Hid (W = (w.alloc (.cells #[.int .i64 bu, .int .i64 gu, .slice ta tl.length tc, .slice ka kl.length kc] 38)).alloc (.cells #[.int .i64 0, .int .i64 0, .int .i64 0, .slice none 0 0, .slice none 0 0, .slice none 0 0] 67)) := hW
  have K0 : Hid (Below w.heap.size w W ∧ S4 W w.heap.size (.int .i64 bu) (.int .i64 gu) (.slice ta tl.length tc) (.slice ka kl.length kc) ∧ S6 W (w.heap.size + 1) (.int .i64 0) (.int .i64 0) (.int .i64 0) (.slice none 0 0) (.slice none 0 0) (.slice none 0 0) ∧ w.heap.size + 2 ≤ W.heap.size) := by
    rw [hW]
    refine ⟨((Below.refl _ _).alloc (Nat.le_refl _) _).alloc (by simp) _, (S4.new w _ _ _ _ _).keep ((Below.refl _ _).alloc (Nat.le_refl _) _), ?_, by simp⟩
    have := S6.new (w.alloc (.cells #[.int .i64 bu, .int .i64 gu, .slice ta tl.length tc, .slice ka kl.length kc] 38)) (.int .i64 0) (.int .i64 0) (.int .i64 0) (.slice none 0 0) (.slice none 0 0) (.slice none 0 0) 67
    simpa using this
  obtain ⟨A, hA⟩ : ∃ A, purA bu gu (tl.map Prod.fst) (kl.map Prod.fst) (isKey key) hard = A := ⟨_, rfl⟩
  rw [hA]
  unfold purA at hA
  have HA : Hid (_ = A) := hA
  have e0 := K0.out.2.1.c0
  have e1 := K0.out.2.1.c1
  have e2 := K0.out.2.1.c2
  have e3 := K0.out.2.1.c3
  rw [HW.out] at e0 e1 e2 e3
  clear hW hl hk hto hft ht hq hA
  generalize storeC bu gu (tl.map Prod.fst) (kl.map Prod.fst) = sc at *
  generalize resE hard (isKey key) (tl.map Prod.fst) = R1 at *
  generalize resE hard (isKey key) (kl.map Prod.fst) = R2 at *
  generalize keysP (isKey key) (tl.map Prod.fst ++ kl.map Prod.fst) = KS at *
  generalize tl.length = tn at *
  generalize kl.length = kn at *
  go_enter Tryz.func41, Tryz.ntmps41
  go_wp2_with fail
  rw [← HW.out]
  refine (HF.out _ K0.out.1).mono ?_
  rintro r0 w1 ⟨rfl, hb1⟩
  have K1 : Hid (Below w.heap.size w w1 ∧ S4 w1 w.heap.size (.int .i64 bu) (.int .i64 gu) (.slice ta tn tc) (.slice ka kn kc) ∧ S6 w1 (w.heap.size + 1) (.int .i64 0) (.int .i64 0) (.int .i64 0) (.slice none 0 0) (.slice none 0 0) (.slice none 0 0) ∧ w.heap.size + 2 ≤ w1.heap.size) := ⟨K0.out.1.trans (hb1.mono K0.out.1.size), K0.out.2.1.keep hb1, K0.out.2.2.1.keep hb1, by have := K0.out.2.2.2; have := hb1.size; omega⟩
  clear K0 HW hb1 HF e0 e1 e2 e3
  by_cases cs : sc = 0
  · subst cs
    have HAe : Hid (A = ⟨0, bu, gu, R1, R2, KS⟩) := by have := HA.out; simp only [ne_eq, not_true_eq_false, if_false] at this; exact this.symm
    have HT1 := HT.out rfl
    have HD1 := HD.out rfl
    clear HA HT HD
    go_wp2_with fail
    refine (HT1 _ K1.out.1 K1.out.2.1.c2 K1.out.2.1.c3).mono ?_
    rintro r0 w2 ⟨⟨a, n, k, rfl, ho⟩, hb2⟩
    have CD := HD1 w2 w1.heap.size a n k (K1.out.1.trans (hb2.mono K1.out.1.size)) (K1.out.2.1.keep hb2) ho hb2.size
    have K2 : Hid (Below w.heap.size w w2 ∧ S6 w2 (w.heap.size + 1) (.int .i64 0) (.int .i64 0) (.int .i64 0) (.slice none 0 0) (.slice none 0 0) (.slice none 0 0) ∧ w.heap.size + 2 ≤ w1.heap.size) := ⟨K1.out.1.trans (hb2.mono K1.out.1.size), K1.out.2.2.1.keep hb2, K1.out.2.2.2⟩
    clear K1 HT1 HD1 ho hb2
    go_wp2_with fail
    refine CD.mono ?_
    rintro r0 w3 ⟨⟨r, rfl, hQ⟩, hb3⟩
    have HQ : Hid (QSto w3 w1.heap.size w3.heap.size r R1 R2 KS) := hQ
    have HB : Hid (Below w.heap.size w w3 ∧ w.heap.size + 1 < w1.heap.size) := ⟨K2.out.1.trans (hb3.mono K2.out.1.size), by have := K2.out.2.2; omega⟩
    have hs6 := K2.out.2.1.keep hb3
    have z0 := hs6.c0
    have z1 := hs6.c1
    have z2 := hs6.c2
    have z3 := hs6.c3
    have z4 := hs6.c4
    have z5 := hs6.c5
    have zf0 := hs6.fr 0
    have zf1 := hs6.fr 1
    have zf2 := hs6.fr 2
    have zf3 := hs6.fr 3
    have zf4 := hs6.fr 4
    have zf5 := hs6.fr 5
    clear hs6 hQ hb3 K2 CD
    go_wp2_with fail
    refine bodyPost_ret (v := .agg #[.int .i64 0, .int .i64 bu, .int .i64 gu, .slice r.s.a1 r.s.n1 r.s.k1, .slice r.s.a2 r.s.n2 r.s.k2, .slice r.a3 r.n3 r.k3]) (by simp [results, Tryz.results41, go_sem, z0, z1, z2, z3, z4, z5]) rfl ?_
    refine ⟨PurAns.of ⟨r, rfl, QSto.lower (PurAns.off6 (A := ⟨0, bu, gu, R1, R2, KS⟩) HQ.out HB.out.2 _ _ _ _ _ _) (by have := HB.out.2; omega)⟩ HAe.out, ?_⟩
    exact (((((HB.out.1.setCell (by simp) _).setCell (by simp) _).setCell (by simp) _).setCell (by simp) _).setCell (by simp) _).setCell (by simp) _
  · have HAe : Hid (A = badQ sc) := by have := HA.out; rw [if_pos cs] at this; exact this.symm
    have z0 := K1.out.2.2.1.c0
    have z1 := K1.out.2.2.1.c1
    have z2 := K1.out.2.2.1.c2
    have z3 := K1.out.2.2.1.c3
    have z4 := K1.out.2.2.1.c4
    have z5 := K1.out.2.2.1.c5
    have zf0 := K1.out.2.2.1.fr 0
    have zf1 := K1.out.2.2.1.fr 1
    have zf2 := K1.out.2.2.1.fr 2
    have zf3 := K1.out.2.2.1.fr 3
    have zf4 := K1.out.2.2.1.fr 4
    have zf5 := K1.out.2.2.1.fr 5
    have HB : Hid (Below w.heap.size w w1) := K1.out.1
    clear HA K1 HT HD
    go_wp2_with fail
    refine bodyPost_ret (v := .agg #[.int .i64 sc, .int .i64 0, .int .i64 0, .slice none 0 0, .slice none 0 0, .slice none 0 0]) (by simp [results, Tryz.results41, go_sem, z0, z1, z2, z3, z4, z5]) rfl ?_
    exact ⟨(PurAns.bad _ _ _).of HAe.out, (((((HB.out.setCell (by simp) _).setCell (by simp) _).setCell (by simp) _).setCell (by simp) _).setCell (by simp) _).setCell (by simp) _⟩
set_option maxRecDepth 100000 in
set_option maxHeartbeats 16000000 in
theorem specPurgeAll_any (w : World) (bu gu : Int) (ta ka : Option Addr) (tc kc : Nat) (tl kl : List (Ent × EntR)) (hard : Bool) (hl : tl.length ≤ 1048576) (hk : kl.length ≤ 1048576) (hto : ∀ q ∈ tl ++ kl, EntOk q.1) (hft : ∀ q ∈ tl ++ kl, EntFit q.1) (ht : EntsIn w ta tl) (hq : EntsIn w ka kl) :
    Calls Tryz.prog 48 #[.agg #[.int .i64 bu, .int .i64 gu, .slice ta tl.length tc, .slice ka kl.length kc], .bool hard] w fun e w' => PurAns (purA bu gu (tl.map Prod.fst) (kl.map Prod.fst) anyP hard) w.heap.size e w' ∧ Below w.heap.size w w' := by
  have HF : Hid (∀ X, Below w.heap.size w X → Calls Tryz.prog 54 #[.agg #[.int .i64 bu, .int .i64 gu, .slice ta tl.length tc, .slice ka kl.length kc]] X fun r w' => r = .returned (.int .i64 (storeC bu gu (tl.map Prod.fst) (kl.map Prod.fst))) ∧ Below X.heap.size X w') := fun X hb => specSto_any X bu gu ta ka tc kc tl kl hl hk hto (ht.keep hb) (hq.keep hb)
  have HT : Hid (storeC bu gu (tl.map Prod.fst) (kl.map Prod.fst) = 0 → ∀ X, Below w.heap.size w X → X.cell? ⟨w.heap.size, 2, none⟩ = some (.slice ta tl.length tc) → X.cell? ⟨w.heap.size, 3, none⟩ = some (.slice ka kl.length kc) → Calls Tryz.prog 111 #[.pointer (some ⟨w.heap.size, 0, none⟩)] X fun e w' => (∃ a n k, e = .returned (.slice a n k) ∧ RowT w' X.heap.size (.slice a n k) (keysP anyP (tl.map Prod.fst ++ kl.map Prod.fst))) ∧ Below X.heap.size X w') := fun h0 X hX c2 c3 => by
    have hln : tl.length + kl.length ≤ 1000000 := by have := (storeC_zero h0).2.1; rw [List.length_map, List.length_map] at this; omega
    refine (l9All_at X w.heap.size ta ka tc kc tl kl c2 c3 hln (ht.keep hX) (hq.keep hX)).mono ?_
    rintro e w' ⟨⟨v, rfl, ho⟩, hb⟩
    obtain ⟨va, vc, rfl, _⟩ := row_form ho
    exact ⟨⟨va, _, vc, rfl, ho⟩, hb⟩
  have HD : Hid (storeC bu gu (tl.map Prod.fst) (kl.map Prod.fst) = 0 → ∀ X kb a n k, Below w.heap.size w X → S4 X w.heap.size (.int .i64 bu) (.int .i64 gu) (.slice ta tl.length tc) (.slice ka kl.length kc) → RowT X kb (.slice a n k) (keysP anyP (tl.map Prod.fst ++ kl.map Prod.fst)) → kb ≤ X.heap.size → Calls Tryz.prog 105 #[.pointer (some ⟨w.heap.size, 0, none⟩), .slice a n k, .bool hard] X fun e w' => (∃ r : QR, e = .returned (.agg #[.int .i64 0, .int .i64 bu, .int .i64 gu, .slice r.s.a1 r.s.n1 r.s.k1, .slice r.s.a2 r.s.n2 r.s.k2, .slice r.a3 r.n3 r.k3]) ∧ QSto w' kb w'.heap.size r (resE hard anyP (tl.map Prod.fst)) (resE hard anyP (kl.map Prod.fst)) (keysP anyP (tl.map Prod.fst ++ kl.map Prod.fst))) ∧ Below X.heap.size X w') := fun h0 X kb a n k hX hs hr hkb => by
    have hln : tl.length + kl.length ≤ 40 := by have := (storeC_zero h0).2.1; rw [List.length_map, List.length_map] at this; omega
    have hkl : (keysP anyP (tl.map Prod.fst ++ kl.map Prod.fst)).length ≤ 1000 := by
      have := keysP_len anyP (tl.map Prod.fst ++ kl.map Prod.fst)
      rw [List.length_append, List.length_map, List.length_map] at this
      omega
    have := l9Do_at X w.heap.size kb bu gu ta ka tc kc tl kl a n k _ hard hs hln hft (ht.keep hX) (hq.keep hX) hkl hr hkb
    rw [(resE_keys (storeC_nd h0)).1, (resE_keys (storeC_nd h0)).2] at this
    exact this
  obtain ⟨W, hW⟩ : ∃ W, W = (w.alloc (.cells #[.int .i64 bu, .int .i64 gu, .slice ta tl.length tc, .slice ka kl.length kc] 38)).alloc (.cells #[.int .i64 0, .int .i64 0, .int .i64 0, .slice none 0 0, .slice none 0 0, .slice none 0 0] 67) := ⟨_, rfl⟩
  have HW : Hid (W = (w.alloc (.cells #[.int .i64 bu, .int .i64 gu, .slice ta tl.length tc, .slice ka kl.length kc] 38)).alloc (.cells #[.int .i64 0, .int .i64 0, .int .i64 0, .slice none 0 0, .slice none 0 0, .slice none 0 0] 67)) := hW
  have K0 : Hid (Below w.heap.size w W ∧ S4 W w.heap.size (.int .i64 bu) (.int .i64 gu) (.slice ta tl.length tc) (.slice ka kl.length kc) ∧ S6 W (w.heap.size + 1) (.int .i64 0) (.int .i64 0) (.int .i64 0) (.slice none 0 0) (.slice none 0 0) (.slice none 0 0) ∧ w.heap.size + 2 ≤ W.heap.size) := by
    rw [hW]
    refine ⟨((Below.refl _ _).alloc (Nat.le_refl _) _).alloc (by simp) _, (S4.new w _ _ _ _ _).keep ((Below.refl _ _).alloc (Nat.le_refl _) _), ?_, by simp⟩
    have := S6.new (w.alloc (.cells #[.int .i64 bu, .int .i64 gu, .slice ta tl.length tc, .slice ka kl.length kc] 38)) (.int .i64 0) (.int .i64 0) (.int .i64 0) (.slice none 0 0) (.slice none 0 0) (.slice none 0 0) 67
    simpa using this
  obtain ⟨A, hA⟩ : ∃ A, purA bu gu (tl.map Prod.fst) (kl.map Prod.fst) anyP hard = A := ⟨_, rfl⟩
  rw [hA]
  unfold purA at hA
  have HA : Hid (_ = A) := hA
  have e0 := K0.out.2.1.c0
  have e1 := K0.out.2.1.c1
  have e2 := K0.out.2.1.c2
  have e3 := K0.out.2.1.c3
  rw [HW.out] at e0 e1 e2 e3
  clear hW hl hk hto hft ht hq hA
  generalize storeC bu gu (tl.map Prod.fst) (kl.map Prod.fst) = sc at *
  generalize resE hard anyP (tl.map Prod.fst) = R1 at *
  generalize resE hard anyP (kl.map Prod.fst) = R2 at *
  generalize keysP anyP (tl.map Prod.fst ++ kl.map Prod.fst) = KS at *
  generalize tl.length = tn at *
  generalize kl.length = kn at *
  go_enter Tryz.func48, Tryz.ntmps48
  go_wp2_with fail
  rw [← HW.out]
  refine (HF.out _ K0.out.1).mono ?_
  rintro r0 w1 ⟨rfl, hb1⟩
  have K1 : Hid (Below w.heap.size w w1 ∧ S4 w1 w.heap.size (.int .i64 bu) (.int .i64 gu) (.slice ta tn tc) (.slice ka kn kc) ∧ S6 w1 (w.heap.size + 1) (.int .i64 0) (.int .i64 0) (.int .i64 0) (.slice none 0 0) (.slice none 0 0) (.slice none 0 0) ∧ w.heap.size + 2 ≤ w1.heap.size) := ⟨K0.out.1.trans (hb1.mono K0.out.1.size), K0.out.2.1.keep hb1, K0.out.2.2.1.keep hb1, by have := K0.out.2.2.2; have := hb1.size; omega⟩
  clear K0 HW hb1 HF e0 e1 e2 e3
  by_cases cs : sc = 0
  · subst cs
    have HAe : Hid (A = ⟨0, bu, gu, R1, R2, KS⟩) := by have := HA.out; simp only [ne_eq, not_true_eq_false, if_false] at this; exact this.symm
    have HT1 := HT.out rfl
    have HD1 := HD.out rfl
    clear HA HT HD
    go_wp2_with fail
    refine (HT1 _ K1.out.1 K1.out.2.1.c2 K1.out.2.1.c3).mono ?_
    rintro r0 w2 ⟨⟨a, n, k, rfl, ho⟩, hb2⟩
    have CD := HD1 w2 w1.heap.size a n k (K1.out.1.trans (hb2.mono K1.out.1.size)) (K1.out.2.1.keep hb2) ho hb2.size
    have K2 : Hid (Below w.heap.size w w2 ∧ S6 w2 (w.heap.size + 1) (.int .i64 0) (.int .i64 0) (.int .i64 0) (.slice none 0 0) (.slice none 0 0) (.slice none 0 0) ∧ w.heap.size + 2 ≤ w1.heap.size) := ⟨K1.out.1.trans (hb2.mono K1.out.1.size), K1.out.2.2.1.keep hb2, K1.out.2.2.2⟩
    clear K1 HT1 HD1 ho hb2
    go_wp2_with fail
    refine CD.mono ?_
    rintro r0 w3 ⟨⟨r, rfl, hQ⟩, hb3⟩
    have HQ : Hid (QSto w3 w1.heap.size w3.heap.size r R1 R2 KS) := hQ
    have HB : Hid (Below w.heap.size w w3 ∧ w.heap.size + 1 < w1.heap.size) := ⟨K2.out.1.trans (hb3.mono K2.out.1.size), by have := K2.out.2.2; omega⟩
    have hs6 := K2.out.2.1.keep hb3
    have z0 := hs6.c0
    have z1 := hs6.c1
    have z2 := hs6.c2
    have z3 := hs6.c3
    have z4 := hs6.c4
    have z5 := hs6.c5
    have zf0 := hs6.fr 0
    have zf1 := hs6.fr 1
    have zf2 := hs6.fr 2
    have zf3 := hs6.fr 3
    have zf4 := hs6.fr 4
    have zf5 := hs6.fr 5
    clear hs6 hQ hb3 K2 CD
    go_wp2_with fail
    refine bodyPost_ret (v := .agg #[.int .i64 0, .int .i64 bu, .int .i64 gu, .slice r.s.a1 r.s.n1 r.s.k1, .slice r.s.a2 r.s.n2 r.s.k2, .slice r.a3 r.n3 r.k3]) (by simp [results, Tryz.results48, go_sem, z0, z1, z2, z3, z4, z5]) rfl ?_
    refine ⟨PurAns.of ⟨r, rfl, QSto.lower (PurAns.off6 (A := ⟨0, bu, gu, R1, R2, KS⟩) HQ.out HB.out.2 _ _ _ _ _ _) (by have := HB.out.2; omega)⟩ HAe.out, ?_⟩
    exact (((((HB.out.1.setCell (by simp) _).setCell (by simp) _).setCell (by simp) _).setCell (by simp) _).setCell (by simp) _).setCell (by simp) _
  · have HAe : Hid (A = badQ sc) := by have := HA.out; rw [if_pos cs] at this; exact this.symm
    have z0 := K1.out.2.2.1.c0
    have z1 := K1.out.2.2.1.c1
    have z2 := K1.out.2.2.1.c2
    have z3 := K1.out.2.2.1.c3
    have z4 := K1.out.2.2.1.c4
    have z5 := K1.out.2.2.1.c5
    have zf0 := K1.out.2.2.1.fr 0
    have zf1 := K1.out.2.2.1.fr 1
    have zf2 := K1.out.2.2.1.fr 2
    have zf3 := K1.out.2.2.1.fr 3
    have zf4 := K1.out.2.2.1.fr 4
    have zf5 := K1.out.2.2.1.fr 5
    have HB : Hid (Below w.heap.size w w1) := K1.out.1
    clear HA K1 HT HD
    go_wp2_with fail
    refine bodyPost_ret (v := .agg #[.int .i64 sc, .int .i64 0, .int .i64 0, .slice none 0 0, .slice none 0 0, .slice none 0 0]) (by simp [results, Tryz.results48, go_sem, z0, z1, z2, z3, z4, z5]) rfl ?_
    exact ⟨(PurAns.bad _ _ _).of HAe.out, (((((HB.out.setCell (by simp) _).setCell (by simp) _).setCell (by simp) _).setCell (by simp) _).setCell (by simp) _).setCell (by simp) _⟩
end Go.Proofs.YtmidfgjnaebfiaaGreatDoor
/-
  PurgeKey, PurgeTag, PurgeAll, by the program.
-/
namespace Go.Proofs.YtmidfgjnaebfiaaGreatDoor
open Go.ChangeShapes Go.WideShapes Go.ChangeAt Go.RowKit Go.Sort
set_option maxRecDepth 100000 in
set_option maxHeartbeats 16000000 in
theorem purge_any (w : World) (B0 g : Nat) (lb : Array Value) (p : Ent → Bool) (C : World → Prop) (bu gu : Int) (ta ka : Option Addr) (tc kc : Nat) (tl kl : List (Ent × EntR)) (hard : Bool) (PF : PredF B0 g lb p C) (hC : C w) (hB0 : B0 ≤ w.heap.size) (hset : SetIs w) (hl : tl.length ≤ 1048576) (hk : kl.length ≤ 1048576) (hto : ∀ q ∈ tl ++ kl, EntOk q.1) (hts : ∀ q ∈ tl ++ kl, ∀ t ∈ q.1.ts, t.size ≤ 1048576) (ht : EntsIn w ta tl) (hq : EntsIn w ka kl) :
    Calls Tryz.prog 107 #[.agg #[.int .i64 bu, .int .i64 gu, .slice ta tl.length tc, .slice ka kl.length kc], .bool hard, .func (.func g) #[] lb] w fun e w' => PurAns (purA bu gu (tl.map Prod.fst) (kl.map Prod.fst) p hard) w.heap.size e w' ∧ Below w.heap.size w w' := by
  have HF : Hid (∀ X, Below w.heap.size w X → Calls Tryz.prog 53 #[.agg #[.int .i64 bu, .int .i64 gu, .slice ta tl.length tc, .slice ka kl.length kc]] X fun r w' => r = .returned (.int .i64 (storeC bu gu (tl.map Prod.fst) (kl.map Prod.fst))) ∧ Below X.heap.size X w') := fun X hb => implSto_any X bu gu ta ka tc kc tl kl (hset.below hb) hl hk hto (ht.keep hb) (hq.keep hb)
  have HSO : Hid (∀ X, Below w.heap.size w X → Calls Tryz.prog 72 #[.agg #[.int .i64 bu, .int .i64 gu, .slice ta tl.length tc, .slice ka kl.length kc]] X fun e w' => (∃ a1 c1 d1 a2 c2 d2, e = .returned (.agg #[.slice a1 c1 d1, .slice a2 c2 d2]) ∧ TwoP w' X.heap.size (.slice a1 c1 d1) (.slice a2 c2 d2) (hdlsA ta tl) (hdlsA ka kl)) ∧ Below X.heap.size X w') := fun X hb => by
    refine (shelvesOf_any X bu gu ta ka tc kc tl kl hl hk (ht.keep hb) (hq.keep hb)).mono ?_
    rintro e w' ⟨⟨v1, v2, rfl, h2⟩, hb'⟩
    obtain ⟨a1, d1, rfl, _⟩ := h2.a.form
    obtain ⟨a2, d2, rfl, _⟩ := h2.b.form
    exact ⟨⟨a1, _, d1, a2, _, d2, rfl, h2⟩, hb'⟩
  have hOk : storeC bu gu (tl.map Prod.fst) (kl.map Prod.fst) = 0 → StoOk w ta ka tl kl := fun h0 => by
    have hx : ∀ h ∈ hdl2 ta ka tl kl, h.x ∈ (tl ++ kl).map Prod.fst := fun h hh => by rw [List.map_append, ← hdl2_x ta ka]; exact List.mem_map_of_mem hh
    refine ⟨ht, hq, by have := (storeC_zero h0).2.1; rw [List.length_map, List.length_map] at this; exact this, fun h hh => storeC_ent h0 h.x (by rw [← List.map_append]; exact hx h hh), fun h hh => ?_⟩
    obtain ⟨q, hq', e⟩ := List.mem_map.1 (hx h hh)
    rw [← e]
    exact hts q hq'
  have HKO : Hid (storeC bu gu (tl.map Prod.fst) (kl.map Prod.fst) = 0 → ∀ X v1 v2 base, Below w.heap.size w X → TwoP X base v1 v2 (hdlsA ta tl) (hdlsA ka kl) → Calls Tryz.prog 137 #[.agg #[v1, v2], .func (.func g) #[] lb] X fun e w' => (∃ a n k, e = .returned (.slice a n k) ∧ RowT w' X.heap.size (.slice a n k) (keysP p (tl.map Prod.fst ++ kl.map Prod.fst))) ∧ Below X.heap.size X w') := fun h0 X v1 v2 base hb h => by
    have ok := hOk h0
    have hn := ok.n
    refine (keysOf_any X v1 v2 base B0 g lb p C (hdlsA ta tl) (hdlsA ka kl) h PF (PF.keep _ _ hC (hb.mono hB0)) (by have := hb.size; omega) (by rw [hdlsA_len, hdlsA_len]; omega) (hdl2_there (ht.keep hb) (hq.keep hb)) (fun h hh => (entC_sizes (ok.z h hh)).2) (fun h hh => (entC_sizes (ok.z h hh)).1)).mono ?_
    rintro e w' ⟨⟨v, rfl, ho⟩, hb'⟩
    have ex : (hdlsA ta tl ++ hdlsA ka kl).map Hdl.x = tl.map Prod.fst ++ kl.map Prod.fst := hdl2_x ta ka tl kl
    rw [ex] at ho
    obtain ⟨va, vc, rfl, _⟩ := row_form ho
    exact ⟨⟨va, _, vc, rfl, ho⟩, hb'⟩
  have HTO : Hid (storeC bu gu (tl.map Prod.fst) (kl.map Prod.fst) = 0 → ∀ X, Below w.heap.size w X → Calls Tryz.prog 160 #[.agg #[.int .i64 bu, .int .i64 gu, .slice ta tl.length tc, .slice ka kl.length kc], .func (.func g) #[] lb] X fun e w' => (∃ a1 k1 n1 a2 k2 n2 m1 m2, e = .returned (.agg #[.int .i64 bu, .int .i64 gu, .slice a1 n1 k1, .slice a2 n2 k2]) ∧ m1.map Prod.fst = resE true p (tl.map Prod.fst) ∧ m2.map Prod.fst = resE true p (kl.map Prod.fst) ∧ StoLV w' X.heap.size (.slice a1 n1 k1) (.slice a2 n2 k2) m1 m2) ∧ Below X.heap.size X w') := fun h0 X hb => takenOut_any X B0 g lb p C bu gu ta ka tc kc tl kl ((hOk h0).keep hb) PF (PF.keep _ _ hC (hb.mono hB0)) (by have := hb.size; omega)
  have HTS : Hid (storeC bu gu (tl.map Prod.fst) (kl.map Prod.fst) = 0 → ∀ X, Below w.heap.size w X → Calls Tryz.prog 161 #[.agg #[.int .i64 bu, .int .i64 gu, .slice ta tl.length tc, .slice ka kl.length kc], .func (.func g) #[] lb] X fun e w' => (∃ a1 k1 n1 a2 k2 n2 m1 m2, e = .returned (.agg #[.int .i64 bu, .int .i64 gu, .slice a1 n1 k1, .slice a2 n2 k2]) ∧ m1.map Prod.fst = resE false p (tl.map Prod.fst) ∧ m2.map Prod.fst = resE false p (kl.map Prod.fst) ∧ StoLV w' X.heap.size (.slice a1 n1 k1) (.slice a2 n2 k2) m1 m2) ∧ Below X.heap.size X w') := fun h0 X hb => softened_any X B0 g lb p C bu gu ta ka tc kc tl kl ((hOk h0).keep hb) PF (PF.keep _ _ hC (hb.mono hB0)) (by have := hb.size; omega)
  obtain ⟨W, hW⟩ : ∃ W, W = (w.alloc (.cells #[.int .i64 bu, .int .i64 gu, .slice ta tl.length tc, .slice ka kl.length kc] 38)).alloc (.cells #[.int .i64 0, .int .i64 0, .int .i64 0, .slice none 0 0, .slice none 0 0, .slice none 0 0] 67) := ⟨_, rfl⟩
  have HW : Hid (W = (w.alloc (.cells #[.int .i64 bu, .int .i64 gu, .slice ta tl.length tc, .slice ka kl.length kc] 38)).alloc (.cells #[.int .i64 0, .int .i64 0, .int .i64 0, .slice none 0 0, .slice none 0 0, .slice none 0 0] 67)) := hW
  have K0 : Hid (Below w.heap.size w W ∧ S4 W w.heap.size (.int .i64 bu) (.int .i64 gu) (.slice ta tl.length tc) (.slice ka kl.length kc) ∧ S6 W (w.heap.size + 1) (.int .i64 0) (.int .i64 0) (.int .i64 0) (.slice none 0 0) (.slice none 0 0) (.slice none 0 0) ∧ w.heap.size + 2 ≤ W.heap.size) := by
    rw [hW]
    refine ⟨((Below.refl _ _).alloc (Nat.le_refl _) _).alloc (by simp) _, (S4.new w _ _ _ _ _).keep ((Below.refl _ _).alloc (Nat.le_refl _) _), ?_, by simp⟩
    have := S6.new (w.alloc (.cells #[.int .i64 bu, .int .i64 gu, .slice ta tl.length tc, .slice ka kl.length kc] 38)) (.int .i64 0) (.int .i64 0) (.int .i64 0) (.slice none 0 0) (.slice none 0 0) (.slice none 0 0) 67
    simpa using this
  obtain ⟨A, hA⟩ : ∃ A, purA bu gu (tl.map Prod.fst) (kl.map Prod.fst) p hard = A := ⟨_, rfl⟩
  rw [hA]
  unfold purA at hA
  have HA : Hid (_ = A) := hA
  have e0 := K0.out.2.1.c0
  have e1 := K0.out.2.1.c1
  have e2 := K0.out.2.1.c2
  have e3 := K0.out.2.1.c3
  rw [HW.out] at e0 e1 e2 e3
  clear hW hl hk hto hts ht hq hA hset PF hC hB0 hOk
  generalize storeC bu gu (tl.map Prod.fst) (kl.map Prod.fst) = sc at *
  generalize keysP p (tl.map Prod.fst ++ kl.map Prod.fst) = KS at *
  generalize tl.length = tn at *
  generalize kl.length = kn at *
  go_enter Tryz.func107, Tryz.ntmps107
  go_wp2_with fail
  rw [← HW.out]
  refine (HF.out _ K0.out.1).mono ?_
  rintro r0 w1 ⟨rfl, hb1⟩
  have K1 : Hid (Below w.heap.size w w1 ∧ S4 w1 w.heap.size (.int .i64 bu) (.int .i64 gu) (.slice ta tn tc) (.slice ka kn kc) ∧ S6 w1 (w.heap.size + 1) (.int .i64 0) (.int .i64 0) (.int .i64 0) (.slice none 0 0) (.slice none 0 0) (.slice none 0 0) ∧ w.heap.size + 2 ≤ w1.heap.size) := ⟨K0.out.1.trans (hb1.mono K0.out.1.size), K0.out.2.1.keep hb1, K0.out.2.2.1.keep hb1, by have := K0.out.2.2.2; have := hb1.size; omega⟩
  clear K0 HW hb1 HF e0 e1 e2 e3
  by_cases cs : sc = 0
  · subst cs
    have HAe : Hid (A = ⟨0, bu, gu, resE hard p (tl.map Prod.fst), resE hard p (kl.map Prod.fst), KS⟩) := by have := HA.out; simp only [ne_eq, not_true_eq_false, if_false] at this; exact this.symm
    have HK1 := HKO.out rfl
    have HT1 := HTO.out rfl
    have HS1 := HTS.out rfl
    clear HA HKO HTO HTS
    have e0 := K1.out.2.1.c0
    have e1 := K1.out.2.1.c1
    have e2 := K1.out.2.1.c2
    have e3 := K1.out.2.1.c3
    go_wp2_with fail
    refine (HSO.out _ K1.out.1).mono ?_
    rintro r0 w2 ⟨⟨a1, c1, d1, a2, c2, d2, rfl, tp⟩, hb2⟩
    have CK := HK1 w2 _ _ _ (K1.out.1.trans (hb2.mono K1.out.1.size)) tp
    have K2 : Hid (Below w.heap.size w w2 ∧ S4 w2 w.heap.size (.int .i64 bu) (.int .i64 gu) (.slice ta tn tc) (.slice ka kn kc) ∧ S6 w2 (w.heap.size + 1) (.int .i64 0) (.int .i64 0) (.int .i64 0) (.slice none 0 0) (.slice none 0 0) (.slice none 0 0) ∧ w.heap.size + 2 ≤ w2.heap.size) := ⟨K1.out.1.trans (hb2.mono K1.out.1.size), K1.out.2.1.keep hb2, K1.out.2.2.1.keep hb2, by have := K1.out.2.2.2; have := hb2.size; omega⟩
    clear e0 e1 e2 e3 hb2 tp K1 HSO HK1
    go_wp2_with fail
    refine CK.mono ?_
    rintro r0 w3 ⟨⟨a, n, k, rfl, ho⟩, hb3⟩
    have K3 : Hid (Below w.heap.size w w3 ∧ S4 w3 w.heap.size (.int .i64 bu) (.int .i64 gu) (.slice ta tn tc) (.slice ka kn kc) ∧ S6 w3 (w.heap.size + 1) (.int .i64 0) (.int .i64 0) (.int .i64 0) (.slice none 0 0) (.slice none 0 0) (.slice none 0 0) ∧ w.heap.size + 2 ≤ w2.heap.size ∧ w2.heap.size ≤ w3.heap.size) := ⟨K2.out.1.trans (hb3.mono K2.out.1.size), K2.out.2.1.keep hb3, K2.out.2.2.1.keep hb3, K2.out.2.2.2, hb3.size⟩
    have HO : Hid (RowT w3 w2.heap.size (.slice a n k) KS) := ho
    have e0 := K3.out.2.1.c0
    have e1 := K3.out.2.1.c1
    have e2 := K3.out.2.1.c2
    have e3 := K3.out.2.1.c3
    clear ho hb3 K2 CK
    have FIN : Hid (∀ X a1 k1 n1 a2 k2 n2 m1 m2, StoLV X w3.heap.size (.slice a1 n1 k1) (.slice a2 n2 k2) m1 m2 → Below w3.heap.size w3 X → m1.map Prod.fst = resE hard p (tl.map Prod.fst) → m2.map Prod.fst = resE hard p (kl.map Prod.fst) → S6 X (w.heap.size + 1) (.int .i64 0) (.int .i64 0) (.int .i64 0) (.slice none 0 0) (.slice none 0 0) (.slice none 0 0) ∧ (∀ u0 u1 u2 u3 u4 u5, PurAns A w.heap.size (.returned (.agg #[.int .i64 0, .int .i64 bu, .int .i64 gu, .slice a1 n1 k1, .slice a2 n2 k2, .slice a n k])) ((((((X.setCell ⟨w.heap.size + 1, 0, none⟩ u0).setCell ⟨w.heap.size + 1, 1, none⟩ u1).setCell ⟨w.heap.size + 1, 2, none⟩ u2).setCell ⟨w.heap.size + 1, 3, none⟩ u3).setCell ⟨w.heap.size + 1, 4, none⟩ u4).setCell ⟨w.heap.size + 1, 5, none⟩ u5) ∧ Below w.heap.size w ((((((X.setCell ⟨w.heap.size + 1, 0, none⟩ u0).setCell ⟨w.heap.size + 1, 1, none⟩ u1).setCell ⟨w.heap.size + 1, 2, none⟩ u2).setCell ⟨w.heap.size + 1, 3, none⟩ u3).setCell ⟨w.heap.size + 1, 4, none⟩ u4).setCell ⟨w.heap.size + 1, 5, none⟩ u5))) := fun X a1 k1 n1 a2 k2 n2 m1 m2 o hX x1 x2 => by
      obtain ⟨q1, _, q3, q4, q5⟩ := K3.out
      refine ⟨q3.keep hX, fun u0 u1 u2 u3 u4 u5 => ?_⟩
      have bX := q1.trans (hX.mono q1.size)
      have tl0 := HO.out.lv.1
      have hQ : QSto X w2.heap.size X.heap.size ⟨⟨a1, k1, n1, a2, k2, n2⟩, a, k, n⟩ (resE hard p (tl.map Prod.fst)) (resE hard p (kl.map Prod.fst)) KS := QSto.mk (r := ⟨⟨a1, k1, n1, a2, k2, n2⟩, a, k, n⟩) x1 x2 (o.lower q5) (tl0.below hX) (fun q e => ⟨HO.out.lv.2 q e, fun hm => by have := o.t.ge hm; have := tl0.block_lt q e; omega, fun hm => by have := o.k.ge hm; have := tl0.block_lt q e; omega⟩)
      refine ⟨PurAns.of ⟨⟨⟨a1, k1, n1, a2, k2, n2⟩, a, k, n⟩, rfl, QSto.lower (PurAns.off6 (A := ⟨0, bu, gu, resE hard p (tl.map Prod.fst), resE hard p (kl.map Prod.fst), KS⟩) hQ (b := w.heap.size + 1) (by omega) u0 u1 u2 u3 u4 u5) (by omega)⟩ HAe.out, ?_⟩
      exact (((((bX.setCell (by simp) _).setCell (by simp) _).setCell (by simp) _).setCell (by simp) _).setCell (by simp) _).setCell (by simp) _
    cases hard
    · go_wp2_with fail
      refine (HS1 w3 K3.out.1).mono ?_
      rintro r0 w4 ⟨⟨b1, k1, n1, b2, k2, n2, m1, m2, rfl, x1, x2, o⟩, hb4⟩
      obtain ⟨s6, fin⟩ := FIN.out w4 b1 k1 n1 b2 k2 n2 m1 m2 o hb4 x1 x2
      have HX : Hid _ := fin
      have z0 := s6.c0
      have z1 := s6.c1
      have z2 := s6.c2
      have z3 := s6.c3
      have z4 := s6.c4
      have z5 := s6.c5
      have zf0 := s6.fr 0
      have zf1 := s6.fr 1
      have zf2 := s6.fr 2
      have zf3 := s6.fr 3
      have zf4 := s6.fr 4
      have zf5 := s6.fr 5
      clear s6 fin o x1 x2 hb4 FIN HS1 HT1 K3 HO HAe e0 e1 e2 e3
      go_wp2_with fail
      refine bodyPost_ret (v := .agg #[.int .i64 0, .int .i64 bu, .int .i64 gu, .slice b1 n1 k1, .slice b2 n2 k2, .slice a n k]) (by simp [results, Tryz.results107, go_sem, z0, z1, z2, z3, z4, z5]) rfl ?_
      exact HX.out _ _ _ _ _ _
    · go_wp2_with fail
      refine (HT1 w3 K3.out.1).mono ?_
      rintro r0 w4 ⟨⟨b1, k1, n1, b2, k2, n2, m1, m2, rfl, x1, x2, o⟩, hb4⟩
      obtain ⟨s6, fin⟩ := FIN.out w4 b1 k1 n1 b2 k2 n2 m1 m2 o hb4 x1 x2
      have HX : Hid _ := fin
      have z0 := s6.c0
      have z1 := s6.c1
      have z2 := s6.c2
      have z3 := s6.c3
      have z4 := s6.c4
      have z5 := s6.c5
      have zf0 := s6.fr 0
      have zf1 := s6.fr 1
      have zf2 := s6.fr 2
      have zf3 := s6.fr 3
      have zf4 := s6.fr 4
      have zf5 := s6.fr 5
      clear s6 fin o x1 x2 hb4 FIN HS1 HT1 K3 HO HAe e0 e1 e2 e3
      go_wp2_with fail
      refine bodyPost_ret (v := .agg #[.int .i64 0, .int .i64 bu, .int .i64 gu, .slice b1 n1 k1, .slice b2 n2 k2, .slice a n k]) (by simp [results, Tryz.results107, go_sem, z0, z1, z2, z3, z4, z5]) rfl ?_
      exact HX.out _ _ _ _ _ _
  · have HAe : Hid (A = badQ sc) := by have := HA.out; rw [if_pos cs] at this; exact this.symm
    have s6 := K1.out.2.2.1
    have z0 := s6.c0
    have z1 := s6.c1
    have z2 := s6.c2
    have z3 := s6.c3
    have z4 := s6.c4
    have z5 := s6.c5
    have zf0 := s6.fr 0
    have zf1 := s6.fr 1
    have zf2 := s6.fr 2
    have zf3 := s6.fr 3
    have zf4 := s6.fr 4
    have zf5 := s6.fr 5
    have HB : Hid (Below w.heap.size w w1) := K1.out.1
    clear HA K1 HKO HTO HTS HSO s6
    go_wp2_with fail
    refine bodyPost_ret (v := .agg #[.int .i64 sc, .int .i64 0, .int .i64 0, .slice none 0 0, .slice none 0 0, .slice none 0 0]) (by simp [results, Tryz.results107, go_sem, z0, z1, z2, z3, z4, z5]) rfl ?_
    exact ⟨(PurAns.bad _ _ _).of HAe.out, (((((HB.out.setCell (by simp) _).setCell (by simp) _).setCell (by simp) _).setCell (by simp) _).setCell (by simp) _).setCell (by simp) _⟩
set_option maxRecDepth 100000 in
set_option maxHeartbeats 8000000 in
theorem implPurgeKey_any (w : World) (bu gu : Int) (ta ka : Option Addr) (tc kc : Nat) (tl kl : List (Ent × EntR)) (key : ByteArray) (hard : Bool) (hset : SetIs w) (hl : tl.length ≤ 1048576) (hk : kl.length ≤ 1048576) (hto : ∀ q ∈ tl ++ kl, EntOk q.1) (hts : ∀ q ∈ tl ++ kl, ∀ t ∈ q.1.ts, t.size ≤ 1048576) (ht : EntsIn w ta tl) (hq : EntsIn w ka kl) :
    Calls Tryz.prog 42 #[.agg #[.int .i64 bu, .int .i64 gu, .slice ta tl.length tc, .slice ka kl.length kc], .string key, .bool hard] w fun e w' => PurAns (purA bu gu (tl.map Prod.fst) (kl.map Prod.fst) (isKey key) hard) w.heap.size e w' ∧ Below w.heap.size w w' := by
  obtain ⟨A, hA⟩ : ∃ A, purA bu gu (tl.map Prod.fst) (kl.map Prod.fst) (isKey key) hard = A := ⟨_, rfl⟩
  rw [hA]
  obtain ⟨W, hW⟩ : ∃ W, W = (w.alloc (.cells #[.int .i64 bu, .int .i64 gu, .slice ta tl.length tc, .slice ka kl.length kc] 38)).alloc (.cells #[.int .i64 0, .int .i64 0, .int .i64 0, .slice none 0 0, .slice none 0 0, .slice none 0 0] 67) := ⟨_, rfl⟩
  have HW : Hid (W = (w.alloc (.cells #[.int .i64 bu, .int .i64 gu, .slice ta tl.length tc, .slice ka kl.length kc] 38)).alloc (.cells #[.int .i64 0, .int .i64 0, .int .i64 0, .slice none 0 0, .slice none 0 0, .slice none 0 0] 67)) := hW
  have K0 : Hid (Below w.heap.size w W ∧ S4 W w.heap.size (.int .i64 bu) (.int .i64 gu) (.slice ta tl.length tc) (.slice ka kl.length kc) ∧ S6 W (w.heap.size + 1) (.int .i64 0) (.int .i64 0) (.int .i64 0) (.slice none 0 0) (.slice none 0 0) (.slice none 0 0) ∧ w.heap.size + 2 ≤ W.heap.size) := by
    rw [hW]
    refine ⟨((Below.refl _ _).alloc (Nat.le_refl _) _).alloc (by simp) _, (S4.new w _ _ _ _ _).keep ((Below.refl _ _).alloc (Nat.le_refl _) _), ?_, by simp⟩
    have := S6.new (w.alloc (.cells #[.int .i64 bu, .int .i64 gu, .slice ta tl.length tc, .slice ka kl.length kc] 38)) (.int .i64 0) (.int .i64 0) (.int .i64 0) (.slice none 0 0) (.slice none 0 0) (.slice none 0 0) 67
    simpa using this
  have HP : Hid (∀ X, Below w.heap.size w X → ∀ K : Nat, K < X.heap.size → X.cell? ⟨K, 0, none⟩ = some (.string key) → Calls Tryz.prog 107 #[.agg #[.int .i64 bu, .int .i64 gu, .slice ta tl.length tc, .slice ka kl.length kc], .bool hard, .func (.func 162) #[] #[.pointer (some ⟨K, 0, none⟩)]] X fun e w' => (∃ r : QR, e = .returned (.agg #[.int .i64 A.c, .int .i64 A.bu, .int .i64 A.gu, .slice r.s.a1 r.s.n1 r.s.k1, .slice r.s.a2 r.s.n2 r.s.k2, .slice r.a3 r.n3 r.k3]) ∧ QSto w' X.heap.size w'.heap.size r A.t A.k A.g) ∧ Below X.heap.size X w') := fun X hX K hK hc => by
    rw [← hA]
    exact purge_any X X.heap.size _ _ (isKey key) _ bu gu ta ka tc kc tl kl hard (predKey X.heap.size K key hK) hc (Nat.le_refl _) (hset.below hX) hl hk hto hts (ht.keep hX) (hq.keep hX)
  have e0 := K0.out.2.1.c0
  have e1 := K0.out.2.1.c1
  have e2 := K0.out.2.1.c2
  have e3 := K0.out.2.1.c3
  rw [HW.out] at e0 e1 e2 e3
  clear hA hW hset hl hk hto hts ht hq
  obtain ⟨c, bo, go, T1, T2, G⟩ := A
  simp only at HP
  generalize tl.length = tn at *
  generalize kl.length = kn at *
  go_enter Tryz.func42, Tryz.ntmps42
  go_wp2_with fail
  rw [← HW.out]
  clear HW
  have HKW : Hid (∀ X, Below W.heap.size W X → Below w.heap.size w X ∧ S4 X w.heap.size (.int .i64 bu) (.int .i64 gu) (.slice ta tn tc) (.slice ka kn kc) ∧ S6 X (w.heap.size + 1) (.int .i64 0) (.int .i64 0) (.int .i64 0) (.slice none 0 0) (.slice none 0 0) (.slice none 0 0)) := fun X hX => ⟨K0.out.1.trans (hX.mono K0.out.1.size), K0.out.2.1.keep hX, K0.out.2.2.1.keep hX⟩
  have HKS : Hid (∀ X, Below W.heap.size W X → (X.cell? ⟨w.heap.size, 0, none⟩ = some (.int .i64 bu) ∧ X.cell? ⟨w.heap.size, 1, none⟩ = some (.int .i64 gu) ∧ X.cell? ⟨w.heap.size, 2, none⟩ = some (.slice ta tn tc) ∧ X.cell? ⟨w.heap.size, 3, none⟩ = some (.slice ka kn kc))) := fun X hX => ⟨(HKW.out X hX).2.1.c0, (HKW.out X hX).2.1.c1, (HKW.out X hX).2.1.c2, (HKW.out X hX).2.1.c3⟩
  have HKT : Hid (∀ X u0 u1 u2 u3 u4 u5, Below W.heap.size W X → (((((((X.setCell ⟨w.heap.size + 1, 0, none⟩ u0).setCell ⟨w.heap.size + 1, 1, none⟩ u1).setCell ⟨w.heap.size + 1, 2, none⟩ u2).setCell ⟨w.heap.size + 1, 3, none⟩ u3).setCell ⟨w.heap.size + 1, 4, none⟩ u4).setCell ⟨w.heap.size + 1, 5, none⟩ u5).cell? ⟨w.heap.size, 0, none⟩ = some (.int .i64 bu) ∧ ((((((X.setCell ⟨w.heap.size + 1, 0, none⟩ u0).setCell ⟨w.heap.size + 1, 1, none⟩ u1).setCell ⟨w.heap.size + 1, 2, none⟩ u2).setCell ⟨w.heap.size + 1, 3, none⟩ u3).setCell ⟨w.heap.size + 1, 4, none⟩ u4).setCell ⟨w.heap.size + 1, 5, none⟩ u5).cell? ⟨w.heap.size, 1, none⟩ = some (.int .i64 gu) ∧ ((((((X.setCell ⟨w.heap.size + 1, 0, none⟩ u0).setCell ⟨w.heap.size + 1, 1, none⟩ u1).setCell ⟨w.heap.size + 1, 2, none⟩ u2).setCell ⟨w.heap.size + 1, 3, none⟩ u3).setCell ⟨w.heap.size + 1, 4, none⟩ u4).setCell ⟨w.heap.size + 1, 5, none⟩ u5).cell? ⟨w.heap.size, 2, none⟩ = some (.slice ta tn tc) ∧ ((((((X.setCell ⟨w.heap.size + 1, 0, none⟩ u0).setCell ⟨w.heap.size + 1, 1, none⟩ u1).setCell ⟨w.heap.size + 1, 2, none⟩ u2).setCell ⟨w.heap.size + 1, 3, none⟩ u3).setCell ⟨w.heap.size + 1, 4, none⟩ u4).setCell ⟨w.heap.size + 1, 5, none⟩ u5).cell? ⟨w.heap.size, 3, none⟩ = some (.slice ka kn kc))) := fun X u0 u1 u2 u3 u4 u5 hX => by
    have s := ((((((HKW.out X hX).2.1.off (B := w.heap.size + 1) (i := 0) (x := u0) (by omega)).off (B := w.heap.size + 1) (i := 1) (x := u1) (by omega)).off (B := w.heap.size + 1) (i := 2) (x := u2) (by omega)).off (B := w.heap.size + 1) (i := 3) (x := u3) (by omega)).off (B := w.heap.size + 1) (i := 4) (x := u4) (by omega)).off (B := w.heap.size + 1) (i := 5) (x := u5) (by omega)
    exact ⟨s.c0, s.c1, s.c2, s.c3⟩
  have B0' : Hid (Below W.heap.size W W.drew) := (Below.refl _ _).drew
  go_region_held3 (fun X => X.cell? ⟨w.heap.size, 0, none⟩ = some (.int .i64 bu) ∧ X.cell? ⟨w.heap.size, 1, none⟩ = some (.int .i64 gu) ∧ X.cell? ⟨w.heap.size, 2, none⟩ = some (.slice ta tn tc) ∧ X.cell? ⟨w.heap.size, 3, none⟩ = some (.slice ka kn kc))
    (first | ((with_reducible refine HKS.out _ ?_); (with_reducible exact BB.out)) | ((with_reducible refine HKS.out _ ?_); (with_reducible exact BA.out)) | ((with_reducible refine HKS.out _ ?_); (with_reducible exact B0'.out)) | ((with_reducible refine HKT.out _ _ _ _ _ _ _ ?_); (with_reducible exact BB.out)))
    (first
    | (go_at_call 107; (with_reducible refine (HP.out wa ?_ _ ?_ ?_).mono ?_); (exact (HKW.out _ BA.out).1); (exact HC.out.2); (exact HC.out.1); rintro r0 w3 ⟨⟨r, rfl, hQ⟩, hb3⟩; have BB : Hid (Below W.heap.size W w3) := BA.out.trans (hb3.mono BA.out.size); have HQ : Hid (QSto w3 wa.heap.size w3.heap.size r T1 T2 G ∧ w.heap.size + 1 < wa.heap.size ∧ Below w.heap.size w w3) := ⟨hQ, by have := BA.out.size; have := K0.out.2.2.2; omega, (HKW.out _ BB.out).1⟩; have s6 := (HKW.out _ BB.out).2.2; have z0 := s6.c0; have z1 := s6.c1; have z2 := s6.c2; have z3 := s6.c3; have z4 := s6.c4; have z5 := s6.c5; have zf0 := s6.fr 0; have zf1 := s6.fr 1; have zf2 := s6.fr 2; have zf3 := s6.fr 3; have zf4 := s6.fr 4; have zf5 := s6.fr 5; clear s6 hQ hb3)
    | (go_at_call 108; (with_reducible refine (hasKey_any W.drew key).mono ?_); rintro r0 wa ⟨rfl, hc2, hl2, hb2⟩; have BA : Hid (Below W.heap.size W wa) := B0'.out.trans (hb2.mono B0'.out.size); have HC : Hid (wa.cell? ⟨W.drew.heap.size, 0, none⟩ = some (.string key) ∧ W.drew.heap.size < wa.heap.size) := ⟨hc2, hl2⟩; clear hc2 hl2 hb2))
  all_goals
    go_wp2_with fail
    refine bodyPost_ret (v := .agg #[.int .i64 c, .int .i64 bo, .int .i64 go, .slice r.s.a1 r.s.n1 r.s.k1, .slice r.s.a2 r.s.n2 r.s.k2, .slice r.a3 r.n3 r.k3]) (by simp [results, Tryz.results42, go_sem, z0, z1, z2, z3, z4, z5]) rfl ?_
    refine ⟨⟨r, rfl, QSto.lower (PurAns.off6 (A := ⟨c, bo, go, T1, T2, G⟩) HQ.out.1 HQ.out.2.1 _ _ _ _ _ _) (by have := HQ.out.2.1; omega)⟩, ?_⟩
    exact (((((HQ.out.2.2.setCell (by simp) _).setCell (by simp) _).setCell (by simp) _).setCell (by simp) _).setCell (by simp) _).setCell (by simp) _
set_option maxRecDepth 100000 in
set_option maxHeartbeats 8000000 in
theorem implPurgeTag_any (w : World) (bu gu : Int) (ta ka : Option Addr) (tc kc : Nat) (tl kl : List (Ent × EntR)) (tag : ByteArray) (hard : Bool) (hset : SetIs w) (hl : tl.length ≤ 1048576) (hk : kl.length ≤ 1048576) (hto : ∀ q ∈ tl ++ kl, EntOk q.1) (hts : ∀ q ∈ tl ++ kl, ∀ t ∈ q.1.ts, t.size ≤ 1048576) (ht : EntsIn w ta tl) (hq : EntsIn w ka kl) :
    Calls Tryz.prog 47 #[.agg #[.int .i64 bu, .int .i64 gu, .slice ta tl.length tc, .slice ka kl.length kc], .string tag, .bool hard] w fun e w' => PurAns (purA bu gu (tl.map Prod.fst) (kl.map Prod.fst) (tagP tag) hard) w.heap.size e w' ∧ Below w.heap.size w w' := by
  obtain ⟨A, hA⟩ : ∃ A, purA bu gu (tl.map Prod.fst) (kl.map Prod.fst) (tagP tag) hard = A := ⟨_, rfl⟩
  rw [hA]
  obtain ⟨W, hW⟩ : ∃ W, W = (w.alloc (.cells #[.int .i64 bu, .int .i64 gu, .slice ta tl.length tc, .slice ka kl.length kc] 38)).alloc (.cells #[.int .i64 0, .int .i64 0, .int .i64 0, .slice none 0 0, .slice none 0 0, .slice none 0 0] 67) := ⟨_, rfl⟩
  have HW : Hid (W = (w.alloc (.cells #[.int .i64 bu, .int .i64 gu, .slice ta tl.length tc, .slice ka kl.length kc] 38)).alloc (.cells #[.int .i64 0, .int .i64 0, .int .i64 0, .slice none 0 0, .slice none 0 0, .slice none 0 0] 67)) := hW
  have K0 : Hid (Below w.heap.size w W ∧ S4 W w.heap.size (.int .i64 bu) (.int .i64 gu) (.slice ta tl.length tc) (.slice ka kl.length kc) ∧ S6 W (w.heap.size + 1) (.int .i64 0) (.int .i64 0) (.int .i64 0) (.slice none 0 0) (.slice none 0 0) (.slice none 0 0) ∧ w.heap.size + 2 ≤ W.heap.size) := by
    rw [hW]
    refine ⟨((Below.refl _ _).alloc (Nat.le_refl _) _).alloc (by simp) _, (S4.new w _ _ _ _ _).keep ((Below.refl _ _).alloc (Nat.le_refl _) _), ?_, by simp⟩
    have := S6.new (w.alloc (.cells #[.int .i64 bu, .int .i64 gu, .slice ta tl.length tc, .slice ka kl.length kc] 38)) (.int .i64 0) (.int .i64 0) (.int .i64 0) (.slice none 0 0) (.slice none 0 0) (.slice none 0 0) 67
    simpa using this
  have HP : Hid (∀ X, Below w.heap.size w X → ∀ K : Nat, K < X.heap.size → X.cell? ⟨K, 0, none⟩ = some (.string tag) → Calls Tryz.prog 107 #[.agg #[.int .i64 bu, .int .i64 gu, .slice ta tl.length tc, .slice ka kl.length kc], .bool hard, .func (.func 164) #[] #[.pointer (some ⟨K, 0, none⟩)]] X fun e w' => (∃ r : QR, e = .returned (.agg #[.int .i64 A.c, .int .i64 A.bu, .int .i64 A.gu, .slice r.s.a1 r.s.n1 r.s.k1, .slice r.s.a2 r.s.n2 r.s.k2, .slice r.a3 r.n3 r.k3]) ∧ QSto w' X.heap.size w'.heap.size r A.t A.k A.g) ∧ Below X.heap.size X w') := fun X hX K hK hc => by
    rw [← hA]
    exact purge_any X X.heap.size _ _ (tagP tag) _ bu gu ta ka tc kc tl kl hard (predTag X.heap.size K tag hK) hc (Nat.le_refl _) (hset.below hX) hl hk hto hts (ht.keep hX) (hq.keep hX)
  have e0 := K0.out.2.1.c0
  have e1 := K0.out.2.1.c1
  have e2 := K0.out.2.1.c2
  have e3 := K0.out.2.1.c3
  rw [HW.out] at e0 e1 e2 e3
  clear hA hW hset hl hk hto hts ht hq
  obtain ⟨c, bo, go, T1, T2, G⟩ := A
  simp only at HP
  generalize tl.length = tn at *
  generalize kl.length = kn at *
  go_enter Tryz.func47, Tryz.ntmps47
  go_wp2_with fail
  rw [← HW.out]
  clear HW
  have HKW : Hid (∀ X, Below W.heap.size W X → Below w.heap.size w X ∧ S4 X w.heap.size (.int .i64 bu) (.int .i64 gu) (.slice ta tn tc) (.slice ka kn kc) ∧ S6 X (w.heap.size + 1) (.int .i64 0) (.int .i64 0) (.int .i64 0) (.slice none 0 0) (.slice none 0 0) (.slice none 0 0)) := fun X hX => ⟨K0.out.1.trans (hX.mono K0.out.1.size), K0.out.2.1.keep hX, K0.out.2.2.1.keep hX⟩
  have HKS : Hid (∀ X, Below W.heap.size W X → (X.cell? ⟨w.heap.size, 0, none⟩ = some (.int .i64 bu) ∧ X.cell? ⟨w.heap.size, 1, none⟩ = some (.int .i64 gu) ∧ X.cell? ⟨w.heap.size, 2, none⟩ = some (.slice ta tn tc) ∧ X.cell? ⟨w.heap.size, 3, none⟩ = some (.slice ka kn kc))) := fun X hX => ⟨(HKW.out X hX).2.1.c0, (HKW.out X hX).2.1.c1, (HKW.out X hX).2.1.c2, (HKW.out X hX).2.1.c3⟩
  have HKT : Hid (∀ X u0 u1 u2 u3 u4 u5, Below W.heap.size W X → (((((((X.setCell ⟨w.heap.size + 1, 0, none⟩ u0).setCell ⟨w.heap.size + 1, 1, none⟩ u1).setCell ⟨w.heap.size + 1, 2, none⟩ u2).setCell ⟨w.heap.size + 1, 3, none⟩ u3).setCell ⟨w.heap.size + 1, 4, none⟩ u4).setCell ⟨w.heap.size + 1, 5, none⟩ u5).cell? ⟨w.heap.size, 0, none⟩ = some (.int .i64 bu) ∧ ((((((X.setCell ⟨w.heap.size + 1, 0, none⟩ u0).setCell ⟨w.heap.size + 1, 1, none⟩ u1).setCell ⟨w.heap.size + 1, 2, none⟩ u2).setCell ⟨w.heap.size + 1, 3, none⟩ u3).setCell ⟨w.heap.size + 1, 4, none⟩ u4).setCell ⟨w.heap.size + 1, 5, none⟩ u5).cell? ⟨w.heap.size, 1, none⟩ = some (.int .i64 gu) ∧ ((((((X.setCell ⟨w.heap.size + 1, 0, none⟩ u0).setCell ⟨w.heap.size + 1, 1, none⟩ u1).setCell ⟨w.heap.size + 1, 2, none⟩ u2).setCell ⟨w.heap.size + 1, 3, none⟩ u3).setCell ⟨w.heap.size + 1, 4, none⟩ u4).setCell ⟨w.heap.size + 1, 5, none⟩ u5).cell? ⟨w.heap.size, 2, none⟩ = some (.slice ta tn tc) ∧ ((((((X.setCell ⟨w.heap.size + 1, 0, none⟩ u0).setCell ⟨w.heap.size + 1, 1, none⟩ u1).setCell ⟨w.heap.size + 1, 2, none⟩ u2).setCell ⟨w.heap.size + 1, 3, none⟩ u3).setCell ⟨w.heap.size + 1, 4, none⟩ u4).setCell ⟨w.heap.size + 1, 5, none⟩ u5).cell? ⟨w.heap.size, 3, none⟩ = some (.slice ka kn kc))) := fun X u0 u1 u2 u3 u4 u5 hX => by
    have s := ((((((HKW.out X hX).2.1.off (B := w.heap.size + 1) (i := 0) (x := u0) (by omega)).off (B := w.heap.size + 1) (i := 1) (x := u1) (by omega)).off (B := w.heap.size + 1) (i := 2) (x := u2) (by omega)).off (B := w.heap.size + 1) (i := 3) (x := u3) (by omega)).off (B := w.heap.size + 1) (i := 4) (x := u4) (by omega)).off (B := w.heap.size + 1) (i := 5) (x := u5) (by omega)
    exact ⟨s.c0, s.c1, s.c2, s.c3⟩
  have B0' : Hid (Below W.heap.size W W.drew) := (Below.refl _ _).drew
  go_region_held3 (fun X => X.cell? ⟨w.heap.size, 0, none⟩ = some (.int .i64 bu) ∧ X.cell? ⟨w.heap.size, 1, none⟩ = some (.int .i64 gu) ∧ X.cell? ⟨w.heap.size, 2, none⟩ = some (.slice ta tn tc) ∧ X.cell? ⟨w.heap.size, 3, none⟩ = some (.slice ka kn kc))
    (first | ((with_reducible refine HKS.out _ ?_); (with_reducible exact BB.out)) | ((with_reducible refine HKS.out _ ?_); (with_reducible exact BA.out)) | ((with_reducible refine HKS.out _ ?_); (with_reducible exact B0'.out)) | ((with_reducible refine HKT.out _ _ _ _ _ _ _ ?_); (with_reducible exact BB.out)))
    (first
    | (go_at_call 107; (with_reducible refine (HP.out wa ?_ _ ?_ ?_).mono ?_); (exact (HKW.out _ BA.out).1); (exact HC.out.2); (exact HC.out.1); rintro r0 w3 ⟨⟨r, rfl, hQ⟩, hb3⟩; have BB : Hid (Below W.heap.size W w3) := BA.out.trans (hb3.mono BA.out.size); have HQ : Hid (QSto w3 wa.heap.size w3.heap.size r T1 T2 G ∧ w.heap.size + 1 < wa.heap.size ∧ Below w.heap.size w w3) := ⟨hQ, by have := BA.out.size; have := K0.out.2.2.2; omega, (HKW.out _ BB.out).1⟩; have s6 := (HKW.out _ BB.out).2.2; have z0 := s6.c0; have z1 := s6.c1; have z2 := s6.c2; have z3 := s6.c3; have z4 := s6.c4; have z5 := s6.c5; have zf0 := s6.fr 0; have zf1 := s6.fr 1; have zf2 := s6.fr 2; have zf3 := s6.fr 3; have zf4 := s6.fr 4; have zf5 := s6.fr 5; clear s6 hQ hb3)
    | (go_at_call 110; (with_reducible refine (hasTag_any W.drew tag).mono ?_); rintro r0 wa ⟨rfl, hc2, hl2, hb2⟩; have BA : Hid (Below W.heap.size W wa) := B0'.out.trans (hb2.mono B0'.out.size); have HC : Hid (wa.cell? ⟨W.drew.heap.size, 0, none⟩ = some (.string tag) ∧ W.drew.heap.size < wa.heap.size) := ⟨hc2, hl2⟩; clear hc2 hl2 hb2))
  all_goals
    go_wp2_with fail
    refine bodyPost_ret (v := .agg #[.int .i64 c, .int .i64 bo, .int .i64 go, .slice r.s.a1 r.s.n1 r.s.k1, .slice r.s.a2 r.s.n2 r.s.k2, .slice r.a3 r.n3 r.k3]) (by simp [results, Tryz.results47, go_sem, z0, z1, z2, z3, z4, z5]) rfl ?_
    refine ⟨⟨r, rfl, QSto.lower (PurAns.off6 (A := ⟨c, bo, go, T1, T2, G⟩) HQ.out.1 HQ.out.2.1 _ _ _ _ _ _) (by have := HQ.out.2.1; omega)⟩, ?_⟩
    exact (((((HQ.out.2.2.setCell (by simp) _).setCell (by simp) _).setCell (by simp) _).setCell (by simp) _).setCell (by simp) _).setCell (by simp) _
set_option maxRecDepth 100000 in
set_option maxHeartbeats 8000000 in
theorem implPurgeAll_any (w : World) (bu gu : Int) (ta ka : Option Addr) (tc kc : Nat) (tl kl : List (Ent × EntR)) (hard : Bool) (hset : SetIs w) (hl : tl.length ≤ 1048576) (hk : kl.length ≤ 1048576) (hto : ∀ q ∈ tl ++ kl, EntOk q.1) (hts : ∀ q ∈ tl ++ kl, ∀ t ∈ q.1.ts, t.size ≤ 1048576) (ht : EntsIn w ta tl) (hq : EntsIn w ka kl) :
    Calls Tryz.prog 49 #[.agg #[.int .i64 bu, .int .i64 gu, .slice ta tl.length tc, .slice ka kl.length kc], .bool hard] w fun e w' => PurAns (purA bu gu (tl.map Prod.fst) (kl.map Prod.fst) anyP hard) w.heap.size e w' ∧ Below w.heap.size w w' := by
  obtain ⟨A, hA⟩ : ∃ A, purA bu gu (tl.map Prod.fst) (kl.map Prod.fst) anyP hard = A := ⟨_, rfl⟩
  rw [hA]
  obtain ⟨W, hW⟩ : ∃ W, W = (w.alloc (.cells #[.int .i64 bu, .int .i64 gu, .slice ta tl.length tc, .slice ka kl.length kc] 38)).alloc (.cells #[.int .i64 0, .int .i64 0, .int .i64 0, .slice none 0 0, .slice none 0 0, .slice none 0 0] 67) := ⟨_, rfl⟩
  have HW : Hid (W = (w.alloc (.cells #[.int .i64 bu, .int .i64 gu, .slice ta tl.length tc, .slice ka kl.length kc] 38)).alloc (.cells #[.int .i64 0, .int .i64 0, .int .i64 0, .slice none 0 0, .slice none 0 0, .slice none 0 0] 67)) := hW
  have K0 : Hid (Below w.heap.size w W ∧ S4 W w.heap.size (.int .i64 bu) (.int .i64 gu) (.slice ta tl.length tc) (.slice ka kl.length kc) ∧ S6 W (w.heap.size + 1) (.int .i64 0) (.int .i64 0) (.int .i64 0) (.slice none 0 0) (.slice none 0 0) (.slice none 0 0) ∧ w.heap.size + 2 ≤ W.heap.size) := by
    rw [hW]
    refine ⟨((Below.refl _ _).alloc (Nat.le_refl _) _).alloc (by simp) _, (S4.new w _ _ _ _ _).keep ((Below.refl _ _).alloc (Nat.le_refl _) _), ?_, by simp⟩
    have := S6.new (w.alloc (.cells #[.int .i64 bu, .int .i64 gu, .slice ta tl.length tc, .slice ka kl.length kc] 38)) (.int .i64 0) (.int .i64 0) (.int .i64 0) (.slice none 0 0) (.slice none 0 0) (.slice none 0 0) 67
    simpa using this
  have HP : Hid (∀ X, Below w.heap.size w X → Calls Tryz.prog 107 #[.agg #[.int .i64 bu, .int .i64 gu, .slice ta tl.length tc, .slice ka kl.length kc], .bool hard, .func (.func 112) #[] #[]] X fun e w' => (∃ r : QR, e = .returned (.agg #[.int .i64 A.c, .int .i64 A.bu, .int .i64 A.gu, .slice r.s.a1 r.s.n1 r.s.k1, .slice r.s.a2 r.s.n2 r.s.k2, .slice r.a3 r.n3 r.k3]) ∧ QSto w' X.heap.size w'.heap.size r A.t A.k A.g) ∧ Below X.heap.size X w') := fun X hX => by
    rw [← hA]
    exact purge_any X X.heap.size _ _ anyP _ bu gu ta ka tc kc tl kl hard (predAny X.heap.size) trivial (Nat.le_refl _) (hset.below hX) hl hk hto hts (ht.keep hX) (hq.keep hX)
  have e0 := K0.out.2.1.c0
  have e1 := K0.out.2.1.c1
  have e2 := K0.out.2.1.c2
  have e3 := K0.out.2.1.c3
  rw [HW.out] at e0 e1 e2 e3
  clear hA hW hset hl hk hto hts ht hq
  obtain ⟨c, bo, go, T1, T2, G⟩ := A
  simp only at HP
  generalize tl.length = tn at *
  generalize kl.length = kn at *
  go_enter Tryz.func49, Tryz.ntmps49
  go_wp2_with fail
  rw [← HW.out]
  obtain ⟨w2, hw2⟩ : ∃ w2, w2 = W := ⟨_, rfl⟩
  rw [← hw2] at K0 ⊢
  have CP := HP.out w2 K0.out.1
  have K1 : Hid (Below w.heap.size w w2 ∧ S6 w2 (w.heap.size + 1) (.int .i64 0) (.int .i64 0) (.int .i64 0) (.slice none 0 0) (.slice none 0 0) (.slice none 0 0) ∧ w.heap.size + 1 < w2.heap.size) := ⟨K0.out.1, K0.out.2.2.1, by have := K0.out.2.2.2; omega⟩
  clear K0 hw2
  refine CP.mono ?_
  rintro r0 w3 ⟨⟨r, rfl, hQ⟩, hb3⟩
  have s6 := K1.out.2.1.keep hb3
  have HQ : Hid (QSto w3 w2.heap.size w3.heap.size r T1 T2 G ∧ w.heap.size + 1 < w2.heap.size ∧ Below w.heap.size w w3) := ⟨hQ, K1.out.2.2, K1.out.1.trans (hb3.mono K1.out.1.size)⟩
  have z0 := s6.c0
  have z1 := s6.c1
  have z2 := s6.c2
  have z3 := s6.c3
  have z4 := s6.c4
  have z5 := s6.c5
  have zf0 := s6.fr 0
  have zf1 := s6.fr 1
  have zf2 := s6.fr 2
  have zf3 := s6.fr 3
  have zf4 := s6.fr 4
  have zf5 := s6.fr 5
  clear s6 hQ hb3 K1 CP HP
  go_wp2_with fail
  refine bodyPost_ret (v := .agg #[.int .i64 c, .int .i64 bo, .int .i64 go, .slice r.s.a1 r.s.n1 r.s.k1, .slice r.s.a2 r.s.n2 r.s.k2, .slice r.a3 r.n3 r.k3]) (by simp [results, Tryz.results49, go_sem, z0, z1, z2, z3, z4, z5]) rfl ?_
  refine ⟨⟨r, rfl, QSto.lower (PurAns.off6 (A := ⟨c, bo, go, T1, T2, G⟩) HQ.out.1 HQ.out.2.1 _ _ _ _ _ _) (by have := HQ.out.2.1; omega)⟩, ?_⟩
  exact (((((HQ.out.2.2.setCell (by simp) _).setCell (by simp) _).setCell (by simp) _).setCell (by simp) _).setCell (by simp) _).setCell (by simp) _
end Go.Proofs.YtmidfgjnaebfiaaGreatDoor
/-
  What purges answer fits what the laws take.
-/
namespace Go.Proofs.YtmidfgjnaebfiaaGreatDoor
open Go.ChangeShapes Go.WideShapes Go.ChangeAt Go.RowKit Go.Sort
theorem resE_fit {hard : Bool} {p : Ent → Bool} {L : List Ent} (h : FitE L) : FitE (resE hard p L) := by
  cases hard
  · refine ⟨by simpa [resE, turnE] using h.n, fun x hx => ?_⟩
    obtain ⟨y, hy, rfl⟩ := List.mem_map.1 hx
    have f := h.f y hy
    by_cases c : p y = true
    · simp only [c, if_true]; exact ⟨f.h, f.b, f.t⟩
    · simp only [c]; exact f
  · exact ⟨Nat.le_trans (List.length_filter_le _ _) h.n, fun x hx => h.f x (List.mem_filter.1 hx).1⟩
theorem fit_no : FitE [] := ⟨by simp, by simp⟩
theorem fitE_of {tl kl : List (Ent × EntR)} (h : StoFit tl kl) : FitE (tl.map Prod.fst) ∧ FitE (kl.map Prod.fst) :=
  ⟨⟨by simpa using h.tn, fun x hx => by obtain ⟨q, hq, rfl⟩ := List.mem_map.1 hx; exact h.tf q hq⟩, ⟨by simpa using h.kn, fun x hx => by obtain ⟨q, hq, rfl⟩ := List.mem_map.1 hx; exact h.kf q hq⟩⟩
theorem purA_fit {bu gu : Int} {tl kl : List (Ent × EntR)} {p : Ent → Bool} {hard : Bool} (h : StoFit tl kl) : FitE (purA bu gu (tl.map Prod.fst) (kl.map Prod.fst) p hard).t ∧ FitE (purA bu gu (tl.map Prod.fst) (kl.map Prod.fst) p hard).k ∧ FitG (purA bu gu (tl.map Prod.fst) (kl.map Prod.fst) p hard).g := by
  unfold purA
  split
  · exact ⟨fit_no, fit_no, ⟨by simp [badQ]⟩⟩
  · rename_i h1
    have h0 : storeC bu gu (tl.map Prod.fst) (kl.map Prod.fst) = 0 := by simpa using h1
    have := (storeC_zero h0).2.1
    have k := keysP_len p (tl.map Prod.fst ++ kl.map Prod.fst)
    rw [List.length_append] at k
    exact ⟨resE_fit (fitE_of h).1, resE_fit (fitE_of h).2, ⟨by show (keysP p (tl.map Prod.fst ++ kl.map Prod.fst)).length ≤ 1000; omega⟩⟩
end Go.Proofs.YtmidfgjnaebfiaaGreatDoor
/-
  The law of DropEntry.
-/
namespace Go.Proofs.YtmidfgjnaebfiaaGreatDoor
open Go.ChangeShapes Go.WideShapes Go.ChangeAt Go.RowKit Go.Sort
theorem fil_fit {p : Ent → Bool} {L : List Ent} (h : FitE L) : FitE (L.filter p) := ⟨Nat.le_trans (List.length_filter_le _ _) h.n, fun x hx => h.f x (List.mem_filter.1 hx).1⟩
theorem dropA_fit {bu gu : Int} {tl kl : List (Ent × EntR)} {key : ByteArray} (h : StoFit tl kl) : FitE (dropA bu gu (tl.map Prod.fst) (kl.map Prod.fst) key).t ∧ FitE (dropA bu gu (tl.map Prod.fst) (kl.map Prod.fst) key).k := by
  unfold dropA
  split
  · exact ⟨fit_no, fit_no⟩
  · exact ⟨fil_fit (fitE_of h).1, fil_fit (fitE_of h).2⟩
set_option maxRecDepth 100000 in
set_option maxHeartbeats 16000000 in
theorem lawDropEntry (w : World) (bu gu : Int) (ta ka : Option Addr) (tc kc : Nat) (tl kl : List (Ent × EntR)) (key : ByteArray) (hset : SetIs w) (h1 : StoArg w ta ka tl kl) :
    Calls Tryz.prog 7 #[.agg #[.int .i64 bu, .int .i64 gu, .slice ta tl.length tc, .slice ka kl.length kc], .string key] w fun r w' => r = .returned (.bool true) ∧ Below w.heap.size w w' := by
  obtain ⟨W, hW⟩ : ∃ W, W = w.alloc (.cells #[.int .i64 bu, .int .i64 gu, .slice ta tl.length tc, .slice ka kl.length kc] 24) := ⟨_, rfl⟩
  have HW : Hid (W = w.alloc (.cells #[.int .i64 bu, .int .i64 gu, .slice ta tl.length tc, .slice ka kl.length kc] 24)) := hW
  have K0 : Hid (Below w.heap.size w W ∧ S4 W w.heap.size (.int .i64 bu) (.int .i64 gu) (.slice ta tl.length tc) (.slice ka kl.length kc)) := by
    rw [hW]; exact ⟨(Below.refl _ _).alloc (Nat.le_refl _) _, S4.new w _ _ _ _ _⟩
  by_cases ck : (1048576 : Int) < key.size
  · have KB : Hid (Below w.heap.size w W) := K0.out.1
    clear hW hset h1 K0
    go_enter Tryz.func7, Tryz.ntmps7
    go_wp2_with fail
    rw [← HW.out]
    go_ret
    exact ⟨rfl, KB.out⟩
  have HZ : Hid (∀ X, Below w.heap.size w X → Calls Tryz.prog 14 #[.agg #[.int .i64 bu, .int .i64 gu, .slice ta tl.length tc, .slice ka kl.length kc], .int .i64 1048576] X fun r w' => r = .returned (.int .i64 (szSt 1048576 tl kl)) ∧ Below X.heap.size X w') := fun X hb => szStore_arg X bu gu ta ka tc kc tl kl 1048576 (by omega) (by omega) (h1.keep hb)
  obtain ⟨ok, hok⟩ : ∃ P : Prop, P = (StoFit tl kl ∧ ∀ x ∈ (tl ++ kl).map Prod.fst, ∀ t ∈ x.ts, t.size ≤ 1048576) := ⟨_, rfl⟩
  have HR : Hid (¬ szSt 1048576 tl kl < 0 → ok) := fun h => by rw [hok]; exact ⟨(szSt_room (by omega) h).1, szSt_tags (by omega) h⟩
  have HT : Hid (ok → ∀ X, Below w.heap.size w X → Calls Tryz.prog 16 #[.agg #[.int .i64 bu, .int .i64 gu, .slice ta tl.length tc, .slice ka kl.length kc]] X fun ee w' => (∃ G1 G2, ee = .returned (.agg #[.int .i64 bu, .int .i64 gu, .slice (some ⟨G1, 0, none⟩) tl.length tl.length, .slice (some ⟨G2, 0, none⟩) kl.length kl.length]) ∧ StoNew w' G1 G2 tl kl ∧ X.heap.size ≤ G1) ∧ Below X.heap.size X w') := fun hf X hb => toStore_arg X bu gu ta ka tc kc tl kl (h1.keep hb) (hok ▸ hf).1
  have HQ : Hid (ok → ∀ X G1 G2 H1 H2, StoNew X G1 G2 tl kl → StoNew X H1 H2 tl kl → Calls Tryz.prog 19 #[.agg #[.int .i64 bu, .int .i64 gu, .slice (some ⟨G1, 0, none⟩) tl.length tl.length, .slice (some ⟨G2, 0, none⟩) kl.length kl.length], .agg #[.int .i64 bu, .int .i64 gu, .slice (some ⟨H1, 0, none⟩) tl.length tl.length, .slice (some ⟨H2, 0, none⟩) kl.length kl.length]] X fun r w' => r = .returned (.bool true) ∧ Below X.heap.size X w') := fun hf X G1 G2 H1 H2 h k => eqStore_new X bu gu tl kl G1 G2 H1 H2 (hok ▸ hf).1 h k
  have HM : Hid (ok → ∀ w0 X G1 G2 lo, StoNew w0 G1 G2 tl kl → Below w0.heap.size w0 X → lo ≤ G1 → Calls Tryz.prog 20 #[.agg #[.int .i64 bu, .int .i64 gu, .slice (some ⟨G1, 0, none⟩) tl.length tl.length, .slice (some ⟨G2, 0, none⟩) kl.length kl.length], .int .i64 1] X fun e w' => (∃ c1 : Nat, e = .returned (.int .i64 (c1 : Int)) ∧ 1 ≤ c1 ∧ c1 ≤ 10000000000000) ∧ Below lo X w' ∧ Above w0.heap.size X w') := fun hf w0 X G1 G2 lo h hX hlo => markSto_weak w0 X bu gu tl kl G1 G2 lo _ _ _ (hok ▸ hf).1 h hX hlo rfl
  obtain ⟨An, hAn⟩ : ∃ An : SAns, dropA bu gu (tl.map Prod.fst) (kl.map Prod.fst) key = An := ⟨_, rfl⟩
  have HFX : Hid (ok → FitE An.t ∧ FitE An.k) := fun hf => by rw [← hAn]; exact dropA_fit (hok ▸ hf).1
  have HS : Hid (ok → ∀ X G1 G2, StoNew X G1 G2 tl kl → Calls Tryz.prog 39 #[.agg #[.int .i64 bu, .int .i64 gu, .slice (some ⟨G1, 0, none⟩) tl.length tl.length, .slice (some ⟨G2, 0, none⟩) kl.length kl.length], .string key] X fun e w' => StoAns An X.heap.size e w' ∧ Below X.heap.size X w') := fun hf X G1 G2 h => by
    rw [← hAn]
    obtain ⟨a, b, e1, e2, m⟩ := h
    have l1 := len_map e1
    have l2 := len_map e2
    have hfit := (hok ▸ hf).1
    have hokk := ok_of h1 (hok ▸ hf).1
    rw [← l1, ← l2, ← e1, ← e2]
    exact specDropA_any X bu gu _ _ _ _ a b key (by rw [l1]; exact hfit.tn) (by rw [l2]; exact hfit.kn) (ok_map e1 e2 hokk) (fit_all e1 e2 hfit) m.t.in m.k.in
  have HG : Hid (ok → ∀ X G1 G2, Below w.heap.size w X → StoNew X G1 G2 tl kl → Calls Tryz.prog 40 #[.agg #[.int .i64 bu, .int .i64 gu, .slice (some ⟨G1, 0, none⟩) tl.length tl.length, .slice (some ⟨G2, 0, none⟩) kl.length kl.length], .string key] X fun e w' => StoAns An X.heap.size e w' ∧ Below X.heap.size X w') := fun hf X G1 G2 hb h => by
    rw [← hAn]
    obtain ⟨a, b, e1, e2, m⟩ := h
    have l1 := len_map e1
    have l2 := len_map e2
    have hfit := (hok ▸ hf).1
    have hokk := ok_of h1 (hok ▸ hf).1
    have htt : ∀ q ∈ a ++ b, ∀ t ∈ q.1.ts, t.size ≤ 1048576 := fun q hq => (hok ▸ hf).2 q.1 (by rw [List.map_append, ← e1, ← e2, ← List.map_append]; exact List.mem_map_of_mem hq)
    rw [← l1, ← l2, ← e1, ← e2]
    exact implDropE_any X bu gu _ _ _ _ a b key (hset.below hb) (by rw [l1]; exact hfit.tn) (by rw [l2]; exact hfit.kn) (ok_map e1 e2 hokk) htt m.t.in m.k.in
  clear h1 hW hset hAn hok
  obtain ⟨c, bo, go, L1, L2⟩ := An
  simp only [StoAns] at HS HG HFX
  generalize szSt 1048576 tl kl = z1 at *
  generalize tl.length = tn at *
  generalize kl.length = kn at *
  go_enter Tryz.func7, Tryz.ntmps7
  go_wp2_with fail
  rw [← HW.out]
  refine (HZ.out _ K0.out.1).mono ?_
  rintro e0 w1 ⟨rfl, hb1⟩
  have K1 : Hid (Below w.heap.size w w1 ∧ S4 w1 w.heap.size (.int .i64 bu) (.int .i64 gu) (.slice ta tn tc) (.slice ka kn kc)) := ⟨K0.out.1.trans (hb1.mono K0.out.1.size), K0.out.2.keep hb1⟩
  clear K0 HW HZ hb1
  by_cases cz : z1 < 0
  · clear HR HT HQ HS HG HM HFX
    go_wp2_with fail
    go_ret
    exact ⟨rfl, K1.out.1⟩
  have HF : Hid ok := HR.out (by omega)
  have HX : Hid (FitE L1 ∧ FitE L2) := HFX.out HF.out
  have HE : Hid (∀ X r s, RIn X r L1 L2 → RIn X s L1 L2 → Calls Tryz.prog 25 #[.agg #[.int .i64 c, .int .i64 bo, .int .i64 go, .slice r.a1 r.n1 r.k1, .slice r.a2 r.n2 r.k2], .agg #[.int .i64 c, .int .i64 bo, .int .i64 go, .slice s.a1 s.n1 s.k1, .slice s.a2 s.n2 s.k2]] X fun e w' => e = .returned (.bool true) ∧ Below X.heap.size X w') := fun X r s h k => eqStoR_r X c bo go r s L1 L2 HX.out.1 HX.out.2 h k
  clear HR HFX
  have e0 := K1.out.2.c0
  have e1 := K1.out.2.c1
  have e2 := K1.out.2.c2
  have e3 := K1.out.2.c3
  go_wp2_with fail
  refine (HT.out HF.out _ K1.out.1).mono ?_
  rintro r0 w2 ⟨⟨J1, J2, rfl, m2, _⟩, hb2⟩
  have K2 : Hid (Below w.heap.size w w2 ∧ S4 w2 w.heap.size (.int .i64 bu) (.int .i64 gu) (.slice ta tn tc) (.slice ka kn kc) ∧ StoNew w2 J1 J2 tl kl) := ⟨K1.out.1.trans (hb2.mono K1.out.1.size), K1.out.2.keep hb2, m2⟩
  clear K1 e0 e1 e2 e3 hb2 m2
  go_wp2_with fail
  refine (HS.out HF.out _ _ _ K2.out.2.2).mono ?_
  rintro r0 w3 ⟨⟨r, rfl, hr⟩, hb3⟩
  obtain ⟨V3, hV3⟩ : ∃ V, V = w3.alloc (.cells #[.int .i64 c, .int .i64 bo, .int .i64 go, .slice r.a1 r.n1 r.k1, .slice r.a2 r.n2 r.k2] 46) := ⟨_, rfl⟩
  have HV3 : Hid (V3 = w3.alloc (.cells #[.int .i64 c, .int .i64 bo, .int .i64 go, .slice r.a1 r.n1 r.k1, .slice r.a2 r.n2 r.k2] 46)) := hV3
  have K3 : Hid (Below w.heap.size w V3 ∧ S4 V3 w.heap.size (.int .i64 bu) (.int .i64 gu) (.slice ta tn tc) (.slice ka kn kc) ∧ S5 V3 w3.heap.size (.int .i64 c) (.int .i64 bo) (.int .i64 go) (.slice r.a1 r.n1 r.k1) (.slice r.a2 r.n2 r.k2) ∧ RIn V3 r L1 L2) := by
    have a3 : Below w3.heap.size w3 V3 := by rw [hV3]; exact (Below.refl _ _).alloc (Nat.le_refl _) _
    have b3 := K2.out.1.trans (hb3.mono K2.out.1.size)
    exact ⟨b3.trans (a3.mono b3.size), (K2.out.2.1.keep hb3).keep a3, by rw [hV3]; exact S5.new w3 _ _ _ _ _ _, hr.in.keep a3⟩
  clear K2 hb3 HS hV3 hr
  have e0 := K3.out.2.1.c0
  have e1 := K3.out.2.1.c1
  have e2 := K3.out.2.1.c2
  have e3 := K3.out.2.1.c3
  rw [HV3.out] at e0 e1 e2 e3
  go_wp2_with fail
  rw [← HV3.out]
  refine (HT.out HF.out _ K3.out.1).mono ?_
  rintro r0 w4 ⟨⟨G1, G2, rfl, m4, hG⟩, hb4⟩
  obtain ⟨V4, hV4⟩ : ∃ V, V = w4.alloc (.cells #[.int .i64 bu, .int .i64 gu, .slice (some ⟨G1, 0, none⟩) tn tn, .slice (some ⟨G2, 0, none⟩) kn kn] 38) := ⟨_, rfl⟩
  have HV4 : Hid (V4 = w4.alloc (.cells #[.int .i64 bu, .int .i64 gu, .slice (some ⟨G1, 0, none⟩) tn tn, .slice (some ⟨G2, 0, none⟩) kn kn] 38)) := hV4
  have K4 : Hid (Below w.heap.size w V4 ∧ S4 V4 w.heap.size (.int .i64 bu) (.int .i64 gu) (.slice ta tn tc) (.slice ka kn kc) ∧ S4 V4 w4.heap.size (.int .i64 bu) (.int .i64 gu) (.slice (some ⟨G1, 0, none⟩) tn tn) (.slice (some ⟨G2, 0, none⟩) kn kn) ∧ StoNew w4 G1 G2 tl kl ∧ Below w4.heap.size w4 V4 ∧ Below V3.heap.size V3 V4) := by
    have a4 : Below w4.heap.size w4 V4 := by rw [hV4]; exact (Below.refl _ _).alloc (Nat.le_refl _) _
    have b4 := K3.out.1.trans (hb4.mono K3.out.1.size)
    exact ⟨b4.trans (a4.mono b4.size), (K3.out.2.1.keep hb4).keep a4, by rw [hV4]; exact S4.new w4 _ _ _ _ _, m4, a4, hb4.trans (a4.mono hb4.size)⟩
  clear e0 e1 e2 e3 hb4 m4 hV4 HV3
  go_wp2_with fail
  rw [← HV4.out]
  refine (HG.out HF.out _ _ _ K4.out.1 (K4.out.2.2.2.1.keep K4.out.2.2.2.2.1)).mono ?_
  rintro r0 w5 ⟨⟨s, rfl, hs⟩, hb5⟩
  obtain ⟨V5, hV5⟩ : ∃ V, V = w5.alloc (.cells #[.int .i64 c, .int .i64 bo, .int .i64 go, .slice s.a1 s.n1 s.k1, .slice s.a2 s.n2 s.k2] 46) := ⟨_, rfl⟩
  have HV5 : Hid (V5 = w5.alloc (.cells #[.int .i64 c, .int .i64 bo, .int .i64 go, .slice s.a1 s.n1 s.k1, .slice s.a2 s.n2 s.k2] 46)) := hV5
  have K5 : Hid (Below V4.heap.size V4 V5 ∧ S5 V5 w5.heap.size (.int .i64 c) (.int .i64 bo) (.int .i64 go) (.slice s.a1 s.n1 s.k1) (.slice s.a2 s.n2 s.k2) ∧ RSto V5 V4.heap.size w5.heap.size s L1 L2 ∧ w5.heap.size ≤ V5.heap.size ∧ V4.heap.size ≤ w5.heap.size) := by
    have a5 : Below w5.heap.size w5 V5 := by rw [hV5]; exact (Below.refl _ _).alloc (Nat.le_refl _) _
    exact ⟨hb5.trans (a5.mono hb5.size), by rw [hV5]; exact S5.new w5 _ _ _ _ _ _, hs.below a5, a5.size, hb5.size⟩
  have K35 : Hid (Below V3.heap.size V3 V5) := K4.out.2.2.2.2.2.trans (K5.out.1.mono K4.out.2.2.2.2.2.size)
  clear hb5 hV5 HV4 hs
  have i0 := (K3.out.2.2.1.keep K35.out).c0
  have i1 := (K3.out.2.2.1.keep K35.out).c1
  have i2 := (K3.out.2.2.1.keep K35.out).c2
  have i3 := (K3.out.2.2.1.keep K35.out).c3
  have i4 := (K3.out.2.2.1.keep K35.out).c4
  rw [HV5.out] at i0 i1 i2 i3 i4
  go_wp2_with fail
  rw [← HV5.out]
  refine (HE.out _ s r K5.out.2.2.1.in (K3.out.2.2.2.keep K35.out)).mono ?_
  rintro e0 w6 ⟨rfl, hb6⟩
  obtain ⟨x0, hx0⟩ : ∃ q, q = w4.heap.size := ⟨_, rfl⟩
  have HX0 : Hid (x0 = w4.heap.size) := hx0
  have HK : Hid (∀ X, Below w6.heap.size w6 X → Below V5.heap.size V5 X) := fun X hX => hb6.trans (hX.mono hb6.size)
  have HKA : Hid (∀ X, Below V5.heap.size V5 X → Below w.heap.size w X ∧ S4 X w.heap.size (.int .i64 bu) (.int .i64 gu) (.slice ta tn tc) (.slice ka kn kc) ∧ S4 X x0 (.int .i64 bu) (.int .i64 gu) (.slice (some ⟨G1, 0, none⟩) tn tn) (.slice (some ⟨G2, 0, none⟩) kn kn) ∧ StoNew X G1 G2 tl kl) := fun X hX => by
    rw [hx0]
    have h4 : Below V4.heap.size V4 X := K5.out.1.trans (hX.mono K5.out.1.size)
    exact ⟨K4.out.1.trans (h4.mono K4.out.1.size), K4.out.2.1.keep h4, K4.out.2.2.1.keep h4, (K4.out.2.2.2.1.keep K4.out.2.2.2.2.1).keep h4⟩
  have HG1 : Hid (V3.heap.size ≤ G1) := hG
  clear i0 i1 i2 i3 i4 hb6 HV5 hG
  rw [← hx0]
  clear hx0
  have HKS : Hid (∀ X, Below w6.heap.size w6 X → X.cell? ⟨w.heap.size, 0, none⟩ = some (.int .i64 bu) ∧ X.cell? ⟨w.heap.size, 1, none⟩ = some (.int .i64 gu) ∧ X.cell? ⟨w.heap.size, 2, none⟩ = some (.slice ta tn tc) ∧ X.cell? ⟨w.heap.size, 3, none⟩ = some (.slice ka kn kc) ∧ X.cell? ⟨x0, 0, none⟩ = some (.int .i64 bu) ∧ X.cell? ⟨x0, 1, none⟩ = some (.int .i64 gu) ∧ X.cell? ⟨x0, 2, none⟩ = some (.slice (some ⟨G1, 0, none⟩) tn tn) ∧ X.cell? ⟨x0, 3, none⟩ = some (.slice (some ⟨G2, 0, none⟩) kn kn)) := fun X hX => by
    have hb := HKA.out X (HK.out X hX)
    exact ⟨hb.2.1.c0, hb.2.1.c1, hb.2.1.c2, hb.2.1.c3, hb.2.2.1.c0, hb.2.2.1.c1, hb.2.2.1.c2, hb.2.2.1.c3⟩
  have B0 : Hid (Below w6.heap.size w6 w6.drew) := (Below.refl _ _).drew
  go_wp2_with fail
  go_region_held3 (fun X => X.cell? ⟨w.heap.size, 0, none⟩ = some (.int .i64 bu) ∧ X.cell? ⟨w.heap.size, 1, none⟩ = some (.int .i64 gu) ∧ X.cell? ⟨w.heap.size, 2, none⟩ = some (.slice ta tn tc) ∧ X.cell? ⟨w.heap.size, 3, none⟩ = some (.slice ka kn kc) ∧ X.cell? ⟨x0, 0, none⟩ = some (.int .i64 bu) ∧ X.cell? ⟨x0, 1, none⟩ = some (.int .i64 gu) ∧ X.cell? ⟨x0, 2, none⟩ = some (.slice (some ⟨G1, 0, none⟩) tn tn) ∧ X.cell? ⟨x0, 3, none⟩ = some (.slice (some ⟨G2, 0, none⟩) kn kn))
    (first | exact HKS.out _ BB.out | exact HKS.out _ BA.out | exact HKS.out _ B0.out)
    (first
    | (go_at_call 16; refine (HT.out HF.out _ (HKA.out _ (HK.out _ B0.out)).1).mono ?_; rintro r0 wa ⟨⟨I1, I2, rfl, ma, _⟩, hba⟩; have BA : Hid (Below w6.heap.size w6 wa) := B0.out.trans (hba.mono B0.out.size); have MA : Hid (StoNew wa I1 I2 tl kl) := ma; clear hba ma)
    | (go_at_call 19; refine (HQ.out HF.out _ _ _ _ _ (HKA.out _ (HK.out _ BA.out)).2.2.2 MA.out).mono ?_; rintro r0 wb ⟨rfl, hbb⟩; have BB : Hid (Below w6.heap.size w6 wb) := BA.out.trans (hbb.mono BA.out.size); clear hbb))
  all_goals
    have KB : Hid (Below V5.heap.size V5 wb) := HK.out _ BB.out
    obtain ⟨x1, x2, x3, x4, x5, x6, x7, x8⟩ := HKS.out _ BB.out
    clear HK HKS B0 BA BB MA HQ
    go_wp2_with fail
    have h4b : Below w4.heap.size w4 wb := K4.out.2.2.2.2.1.trans ((K5.out.1.trans (KB.out.mono K5.out.1.size)).mono K4.out.2.2.2.2.1.size)
    refine (HM.out HF.out w4 wb G1 G2 V3.heap.size K4.out.2.2.2.1 h4b HG1.out).mono ?_
    rintro r0 w7 ⟨⟨k1, rfl, hk1, hk2⟩, hb7, ha7⟩
    have g7 : ¬ (k1 : Int) < 0 := by omega
    have H7 : Hid (Below w.heap.size w w7 ∧ S4 w7 w.heap.size (.int .i64 bu) (.int .i64 gu) (.slice ta tn tc) (.slice ka kn kc) ∧ S5 w7 w3.heap.size (.int .i64 c) (.int .i64 bo) (.int .i64 go) (.slice r.a1 r.n1 r.k1) (.slice r.a2 r.n2 r.k2) ∧ RIn w7 r L1 L2 ∧ S5 w7 w5.heap.size (.int .i64 c) (.int .i64 bo) (.int .i64 go) (.slice s.a1 s.n1 s.k1) (.slice s.a2 s.n2 s.k2) ∧ RSto w7 V4.heap.size w5.heap.size s L1 L2 ∧ Below V3.heap.size V3 w7 ∧ w5.heap.size ≤ w7.heap.size) := by
      have d3 : Below V3.heap.size V3 w7 := (K35.out.trans (KB.out.mono K35.out.size)).trans hb7
      have e4 := K4.out.2.2.2.2.1.size
      exact ⟨K3.out.1.trans (d3.mono K3.out.1.size), K3.out.2.1.keep d3, K3.out.2.2.1.keep d3, K3.out.2.2.2.keep d3, (K5.out.2.1.keep KB.out).above ha7 (by have := K5.out.2.2.2.2; omega), (K5.out.2.2.1.below KB.out).above ha7 (by omega), d3, by have := K5.out.2.2.2.1; have := KB.out.size; have := hb7.size; omega⟩
    clear hb7 ha7 h4b KB x1 x2 x3 x4 x5 x6 x7 x8 HM HKA K35 HG1 HX0
    have i0 := H7.out.2.2.1.c0
    have i1 := H7.out.2.2.1.c1
    have i2 := H7.out.2.2.1.c2
    have i3 := H7.out.2.2.1.c3
    have i4 := H7.out.2.2.1.c4
    have j0 := H7.out.2.2.2.2.1.c0
    have j1 := H7.out.2.2.2.2.1.c1
    have j2 := H7.out.2.2.2.2.1.c2
    have j3 := H7.out.2.2.2.2.1.c3
    have j4 := H7.out.2.2.2.2.1.c4
    go_wp2_with fail
    refine (HE.out _ s r H7.out.2.2.2.2.2.1.in H7.out.2.2.2.1).mono ?_
    rintro e0 w8 ⟨rfl, hb8⟩
    have H8 : Hid (Below w.heap.size w w8 ∧ S4 w8 w.heap.size (.int .i64 bu) (.int .i64 gu) (.slice ta tn tc) (.slice ka kn kc) ∧ S5 w8 w3.heap.size (.int .i64 c) (.int .i64 bo) (.int .i64 go) (.slice r.a1 r.n1 r.k1) (.slice r.a2 r.n2 r.k2) ∧ RIn w8 r L1 L2 ∧ S5 w8 w5.heap.size (.int .i64 c) (.int .i64 bo) (.int .i64 go) (.slice s.a1 s.n1 s.k1) (.slice s.a2 s.n2 s.k2) ∧ RSto w8 V4.heap.size w5.heap.size s L1 L2 ∧ Below V3.heap.size V3 w8 ∧ w5.heap.size ≤ w8.heap.size) := by
      have d3 : Below V3.heap.size V3 w8 := H7.out.2.2.2.2.2.2.1.trans (hb8.mono H7.out.2.2.2.2.2.2.1.size)
      exact ⟨K3.out.1.trans (d3.mono K3.out.1.size), K3.out.2.1.keep d3, K3.out.2.2.1.keep d3, K3.out.2.2.2.keep d3, H7.out.2.2.2.2.1.keep hb8, H7.out.2.2.2.2.2.1.below hb8, d3, by have := H7.out.2.2.2.2.2.2.2; have := hb8.size; omega⟩
    clear hb8 H7 g7 i0 i1 i2 i3 i4 j0 j1 j2 j3 j4
    have i0 := H8.out.2.2.2.2.1.c0
    have i1 := H8.out.2.2.2.2.1.c1
    have i2 := H8.out.2.2.2.2.1.c2
    have i3 := H8.out.2.2.2.2.1.c3
    have i4 := H8.out.2.2.2.2.1.c4
    go_wp2_with fail
    refine (markStoR_r w8 V4.heap.size w5.heap.size c bo go s L1 L2 HX.out.1 HX.out.2 (by have := H8.out.2.2.2.2.2.2.2; have := K5.out.2.2.2.2; omega) H8.out.2.2.2.2.2.1).mono ?_
    rintro e0 w9 ⟨rfl, hb9, ha9, hh9⟩
    have H9 : Hid (Below w.heap.size w w9 ∧ S4 w9 w.heap.size (.int .i64 bu) (.int .i64 gu) (.slice ta tn tc) (.slice ka kn kc) ∧ S5 w9 w3.heap.size (.int .i64 c) (.int .i64 bo) (.int .i64 go) (.slice r.a1 r.n1 r.k1) (.slice r.a2 r.n2 r.k2) ∧ RIn w9 r L1 L2 ∧ S5 w9 w5.heap.size (.int .i64 c) (.int .i64 bo) (.int .i64 go) (.slice s.a1 s.n1 s.k1) (.slice s.a2 s.n2 s.k2) ∧ RHeld w9 s L1 L2) := by
      have e4 := K4.out.2.2.2.2.2.size
      have d3 : Below V3.heap.size V3 w9 := H8.out.2.2.2.2.2.2.1.trans (hb9.mono e4)
      exact ⟨K3.out.1.trans (d3.mono K3.out.1.size), K3.out.2.1.keep d3, K3.out.2.2.1.keep d3, K3.out.2.2.2.keep d3, H8.out.2.2.2.2.1.above ha9 (Nat.le_refl _), hh9⟩
    clear hb9 ha9 hh9 H8 K3 K4 K5 i0 i1 i2 i3 i4
    have gq : ¬ (nStoE L1 L2 : Int) < 0 := by omega
    obtain ⟨N, hN⟩ : ∃ N : Int, (nStoE L1 L2 : Int) = N := ⟨_, rfl⟩
    have HH : Hid (∀ X, RHeld X s L1 L2 → Calls Tryz.prog 27 #[.agg #[.int .i64 c, .int .i64 bo, .int .i64 go, .slice s.a1 s.n1 s.k1, .slice s.a2 s.n2 s.k2], .int .i64 1] X fun e w' => e = .returned (.int .i64 N) ∧ Below X.heap.size X w') := fun X h => by
      rw [← hN]; exact heldStoR_r X c bo go s L1 L2 HX.out.1 HX.out.2 h
    rw [hN] at gq ⊢
    clear hN
    have i0 := H9.out.2.2.2.2.1.c0
    have i1 := H9.out.2.2.2.2.1.c1
    have i2 := H9.out.2.2.2.2.1.c2
    have i3 := H9.out.2.2.2.2.1.c3
    have i4 := H9.out.2.2.2.2.1.c4
    go_wp2_with fail
    refine (HH.out _ H9.out.2.2.2.2.2).mono ?_
    rintro e0 wc ⟨rfl, hbc⟩
    have HC : Hid (Below w.heap.size w wc ∧ S4 wc w.heap.size (.int .i64 bu) (.int .i64 gu) (.slice ta tn tc) (.slice ka kn kc) ∧ S5 wc w3.heap.size (.int .i64 c) (.int .i64 bo) (.int .i64 go) (.slice r.a1 r.n1 r.k1) (.slice r.a2 r.n2 r.k2) ∧ RIn wc r L1 L2 ∧ S5 wc w5.heap.size (.int .i64 c) (.int .i64 bo) (.int .i64 go) (.slice s.a1 s.n1 s.k1) (.slice s.a2 s.n2 s.k2) ∧ RHeld wc s L1 L2) := ⟨H9.out.1.trans (hbc.mono H9.out.1.size), H9.out.2.1.keep hbc, H9.out.2.2.1.keep hbc, H9.out.2.2.2.1.keep hbc, H9.out.2.2.2.2.1.keep hbc, H9.out.2.2.2.2.2.below hbc⟩
    clear hbc H9 i0 i1 i2 i3 i4
    have y0 := HC.out.2.1.c0
    have y1 := HC.out.2.1.c1
    have y2 := HC.out.2.1.c2
    have y3 := HC.out.2.1.c3
    go_wp2_with fail
    refine (HT.out HF.out _ HC.out.1).mono ?_
    rintro r0 wd ⟨⟨J3, J4, rfl, md, _⟩, hbd⟩
    have HD : Hid (Below w.heap.size w wd ∧ S5 wd w3.heap.size (.int .i64 c) (.int .i64 bo) (.int .i64 go) (.slice r.a1 r.n1 r.k1) (.slice r.a2 r.n2 r.k2) ∧ RIn wd r L1 L2 ∧ S5 wd w5.heap.size (.int .i64 c) (.int .i64 bo) (.int .i64 go) (.slice s.a1 s.n1 s.k1) (.slice s.a2 s.n2 s.k2) ∧ RHeld wd s L1 L2 ∧ StoNew wd J3 J4 tl kl) := ⟨HC.out.1.trans (hbd.mono HC.out.1.size), HC.out.2.2.1.keep hbd, HC.out.2.2.2.1.keep hbd, HC.out.2.2.2.2.1.keep hbd, HC.out.2.2.2.2.2.below hbd, md⟩
    clear hbd HC y0 y1 y2 y3 HT md
    go_wp2_with fail
    refine (HG.out HF.out _ _ _ HD.out.1 HD.out.2.2.2.2.2).mono ?_
    rintro r0 we ⟨⟨t, rfl, ht⟩, hbe⟩
    obtain ⟨VE, hVE⟩ : ∃ V, V = we.alloc (.cells #[.int .i64 c, .int .i64 bo, .int .i64 go, .slice t.a1 t.n1 t.k1, .slice t.a2 t.n2 t.k2] 46) := ⟨_, rfl⟩
    have HVE : Hid (VE = we.alloc (.cells #[.int .i64 c, .int .i64 bo, .int .i64 go, .slice t.a1 t.n1 t.k1, .slice t.a2 t.n2 t.k2] 46)) := hVE
    have HEE : Hid (Below w.heap.size w VE ∧ S5 VE w3.heap.size (.int .i64 c) (.int .i64 bo) (.int .i64 go) (.slice r.a1 r.n1 r.k1) (.slice r.a2 r.n2 r.k2) ∧ RIn VE r L1 L2 ∧ S5 VE w5.heap.size (.int .i64 c) (.int .i64 bo) (.int .i64 go) (.slice s.a1 s.n1 s.k1) (.slice s.a2 s.n2 s.k2) ∧ RHeld VE s L1 L2 ∧ RIn VE t L1 L2) := by
      have ae : Below we.heap.size we VE := by rw [hVE]; exact (Below.refl _ _).alloc (Nat.le_refl _) _
      have be := HD.out.1.trans (hbe.mono HD.out.1.size)
      exact ⟨be.trans (ae.mono be.size), (HD.out.2.1.keep hbe).keep ae, (HD.out.2.2.1.keep hbe).keep ae, (HD.out.2.2.2.1.keep hbe).keep ae, (HD.out.2.2.2.2.1.below hbe).below ae, ht.in.keep ae⟩
    clear hbe HD HG ht hVE
    have j0 := HEE.out.2.1.c0
    have j1 := HEE.out.2.1.c1
    have j2 := HEE.out.2.1.c2
    have j3 := HEE.out.2.1.c3
    have j4 := HEE.out.2.1.c4
    rw [HVE.out] at j0 j1 j2 j3 j4
    go_wp2_with fail
    rw [← HVE.out]
    refine (HE.out _ t r HEE.out.2.2.2.2.2 HEE.out.2.2.1).mono ?_
    rintro e0 wf ⟨rfl, hbf⟩
    have HFF : Hid (Below w.heap.size w wf ∧ S5 wf w5.heap.size (.int .i64 c) (.int .i64 bo) (.int .i64 go) (.slice s.a1 s.n1 s.k1) (.slice s.a2 s.n2 s.k2) ∧ RHeld wf s L1 L2) := ⟨HEE.out.1.trans (hbf.mono HEE.out.1.size), HEE.out.2.2.2.1.keep hbf, HEE.out.2.2.2.2.1.below hbf⟩
    clear hbf HEE HE HVE j0 j1 j2 j3 j4
    have i0 := HFF.out.2.1.c0
    have i1 := HFF.out.2.1.c1
    have i2 := HFF.out.2.1.c2
    have i3 := HFF.out.2.1.c3
    have i4 := HFF.out.2.1.c4
    go_wp2_with fail
    refine (HH.out _ HFF.out.2.2).mono ?_
    rintro e0 wg ⟨rfl, hbg⟩
    have HZZ : Hid (Below w.heap.size w wg) := HFF.out.1.trans (hbg.mono HFF.out.1.size)
    clear hbg HFF HH i0 i1 i2 i3 i4
    go_wp2_with fail
    go_ret
    exact ⟨rfl, HZZ.out⟩
end Go.Proofs.YtmidfgjnaebfiaaGreatDoor
