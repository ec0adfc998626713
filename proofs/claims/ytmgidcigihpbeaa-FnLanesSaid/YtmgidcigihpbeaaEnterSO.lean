/-
  EnterBulk, by the model: the queue that it hands back lies in a row of its own.
-/
import Derived.Test.YtmgidcigihpbeaaEnterP
import Derived.Test.YtmgidcigihpbeaaBlkSpec
import Derived.Test.YtmgidcigihpbeaaHeldLast
import Derived.Deep.CutRange
import Derived.Deep.CutBlock
namespace Go.Proofs.Ytmgidcigihpbeaa
open Go.ChangeShapes Go.WideShapes Go.ChangeAt Go.RowKit Go.Sort
theorem OwnWt.gwX {g : Nat} {w w' : World} {base : Nat} {v : Value} {l : List Wt} (h : OwnWt w base v l) (k : w.grownBy w' (some g)) (hne : ∀ G, v.ownBlock = some G → G ≠ g) : OwnWt w' base v l := World.ownsRow.kept h k (by
  cases e : v.ownBlock with
  | none => exact .inl rfl
  | some q => right; intro e2; exact hne q e (Option.some.inj e2))
def EnResO (w : World) (base : Nat) (q : EnQ) (e : Ending) : Prop := ∃ a cp, e = .returned (.agg #[.int .i64 q.c, .int .i64 q.y, .slice a q.l.length cp, .bool q.u]) ∧ OwnWt w base (.slice a q.l.length cp) q.l ∧ q.l.length ≤ cp
theorem EnResO.mk {w : World} {base : Nat} {q : EnQ} {c0 y : Int} {a : Option Addr} {n cp : Nat} {l : List Wt} {u : Bool} (h : q = ⟨c0, y, l, u⟩) (hn : l.length = n) (hm : OwnWt w base (.slice a n cp) l) (hc : n ≤ cp) : EnResO w base q (.returned (.agg #[.int .i64 c0, .int .i64 y, .slice a n cp, .bool u])) := by
  subst h; subst hn
  exact ⟨a, cp, rfl, hm, hc⟩
set_option linter.unusedSimpArgs false in
set_option maxRecDepth 100000 in
set_option maxHeartbeats 16000000 in
theorem specEnterO_any (w : World) (y : Int) (a : Option Addr) (cap : Nat) (l : List Wt) (s c t x now : Int) (hl : l.length ≤ 1048576) (hi : WtIn w a l) :
    Calls Try.prog 10 #[.agg #[.int .i64 y, .slice a l.length cap], .agg #[.int .i64 s, .int .i64 c, .int .i64 t], .int .i64 x, .int .i64 now] w fun e w' => EnResO w' w.heap.size (enterR y l s c t x now) e ∧ Below w.heap.size w w' := by
  obtain ⟨W, hW⟩ : ∃ W, W = ((w.alloc (.cells #[.int .i64 y, .slice a l.length cap] 26)).alloc (.cells #[.int .i64 s, .int .i64 c, .int .i64 t] 28)).alloc (.cells #[.int .i64 0, .int .i64 0, .slice none 0 0, .bool false] 32) := ⟨_, rfl⟩
  have HW : Hid (W = ((w.alloc (.cells #[.int .i64 y, .slice a l.length cap] 26)).alloc (.cells #[.int .i64 s, .int .i64 c, .int .i64 t] 28)).alloc (.cells #[.int .i64 0, .int .i64 0, .slice none 0 0, .bool false] 32)) := hW
  have K0 : Hid ((Below w.heap.size w W ∧ D2 W w.heap.size (.int .i64 y) (.slice a l.length cap) ∧ D3 W (w.heap.size + 1) (.int .i64 s) (.int .i64 c) (.int .i64 t) ∧ D4 W (w.heap.size + 2) (.int .i64 0) (.int .i64 0) (.slice none 0 0) (.bool false)) ∧ W.heap.size = w.heap.size + 3) := by
    have h1 := D2.new w (.int .i64 y) (.slice a l.length cap) 26
    obtain ⟨W1, hW1⟩ : ∃ W1, W1 = w.alloc (.cells #[.int .i64 y, .slice a l.length cap] 26) := ⟨_, rfl⟩
    rw [← hW1] at h1 hW
    have e1 : W1.heap.size = w.heap.size + 1 := by rw [hW1]; simp
    have b1 : Below w.heap.size w W1 := by rw [hW1]; exact (Below.refl _ _).alloc (Nat.le_refl _) _
    have h2 := D3.new W1 (.int .i64 s) (.int .i64 c) (.int .i64 t) 28
    obtain ⟨W2, hW2⟩ : ∃ W2, W2 = W1.alloc (.cells #[.int .i64 s, .int .i64 c, .int .i64 t] 28) := ⟨_, rfl⟩
    rw [← hW2] at h2 hW
    have e2 : W2.heap.size = w.heap.size + 2 := by rw [hW2]; simp [e1]
    have b2 : Below W1.heap.size W1 W2 := by rw [hW2]; exact (Below.refl _ _).alloc (Nat.le_refl _) _
    have b3 : Below W2.heap.size W2 W := by rw [hW]; exact (Below.refl _ _).alloc (Nat.le_refl _) _
    have h3 := D4.new W2 (.int .i64 0) (.int .i64 0) (.slice none 0 0) (.bool false) 32
    rw [← hW] at h3
    rw [e1] at h2
    rw [e2] at h3
    have b13 := b2.trans (b3.mono b2.size)
    exact ⟨⟨b1.trans (b13.mono b1.size), h1.keep b13, h2.keep b3, h3⟩, by rw [hW]; simp [e2]⟩
  have HA : Hid (Calls Try.prog 12 #[.agg #[.int .i64 y, .slice a l.length cap], .agg #[.int .i64 s, .int .i64 c, .int .i64 t]] W fun e w' => e = .returned (.int .i64 (blkC y l s c t)) ∧ Below W.heap.size W w') := specBlk_any y a cap l s c t W (hi.keep K0.out.1.1)
  have HU : Hid (∀ x w, Calls Try.prog 46 #[.int .i64 x] w fun r w' => r = .returned (.bool (timeB x)) ∧ w' = w) := l1Time_all
  have HFD : Hid (∀ X, (Below w.heap.size w X ∧ D2 X w.heap.size (.int .i64 y) (.slice a l.length cap) ∧ D3 X (w.heap.size + 1) (.int .i64 s) (.int .i64 c) (.int .i64 t) ∧ D4 X (w.heap.size + 2) (.int .i64 0) (.int .i64 0) (.slice none 0 0) (.bool false)) → Calls Try.prog 47 #[.pointer (some ⟨w.heap.size, 0, none⟩), .int .i64 x] X fun e w' => FindB l x e ∧ w' = X) := fun X hX => specFindB_any X w.heap.size y a cap l x hl hX.2.1 (hi.keep hX.1)
  have HC : Hid (∀ X, (Below w.heap.size w X ∧ D2 X w.heap.size (.int .i64 y) (.slice a l.length cap) ∧ D3 X (w.heap.size + 1) (.int .i64 s) (.int .i64 c) (.int .i64 t) ∧ D4 X (w.heap.size + 2) (.int .i64 0) (.int .i64 0) (.slice none 0 0) (.bool false)) → Calls Try.prog 48 #[.pointer (some ⟨w.heap.size, 0, none⟩)] X fun e w' => CopyB w' X.heap.size y l e ∧ Below X.heap.size X w') := fun X hX => specCopyB_any X w.heap.size y a cap l hl hX.2.1 (hi.keep hX.1)
  have HAD : Hid (0 ≤ now ∧ now ≤ 1000000000000000 → 0 ≤ t ∧ t ≤ 1000000 → ∀ X, Calls Try.prog 49 #[.int .i64 now, .int .i64 t] X fun r w' => r = .returned (.int .i64 (addT now t)) ∧ w' = X) := fun h1 h2 X => l1Add_all now t h1 ⟨h2.1, by omega⟩ X
  have HG : Hid (blkC y l s c t = 0 → GoodB y l s c t) := goodB_of
  have H1 : Hid (¬ blkC y l s c t = 0 → enterR y l s c t x now = ⟨blkC y l s c t, 0, [], false⟩) := enter_bad
  have H2 : Hid (blkC y l s c t = 0 → (timeB x && timeB now) = false → enterR y l s c t x now = ⟨3, 0, [], false⟩) := enter_range
  have H3 : Hid (blkC y l s c t = 0 → (timeB x && timeB now) = true → hasW l x = true → enterR y l s c t x now = ⟨6, 0, [], false⟩) := enter_taken
  have H4 : Hid (blkC y l s c t = 0 → (timeB x && timeB now) = true → hasW l x = false → y < s → enterR y l s c t x now = ⟨0, y + 1, l, true⟩) := enter_start
  have H5 : Hid (blkC y l s c t = 0 → (timeB x && timeB now) = true → hasW l x = false → ¬ y < s → c ≤ (l.length : Int) → enterR y l s c t x now = ⟨7, 0, [], false⟩) := enter_full
  have H6 : Hid (blkC y l s c t = 0 → (timeB x && timeB now) = true → hasW l x = false → ¬ y < s → ¬ c ≤ (l.length : Int) → enterR y l s c t x now = ⟨0, y, l ++ [⟨x, addT now t⟩], false⟩) := enter_wait
  clear hi hW
  generalize enterR y l s c t x now = q at *
  generalize blkC y l s c t = qc at *
  generalize hn : l.length = n at *
  have HN : Hid (l.length = n) := hn
  clear hn
  go_enter Try.func10, Try.ntmps10
  go_wp2_with fail
  rw [← HW.out]
  refine HA.out.mono ?_
  rintro e w1 ⟨rfl, hb1⟩
  have K0' : Hid ((Below w.heap.size w W ∧ D2 W w.heap.size (.int .i64 y) (.slice a n cap) ∧ D3 W (w.heap.size + 1) (.int .i64 s) (.int .i64 c) (.int .i64 t) ∧ D4 W (w.heap.size + 2) (.int .i64 0) (.int .i64 0) (.slice none 0 0) (.bool false)) ∧ w.heap.size + 3 ≤ W.heap.size) := ⟨K0.out.1, Nat.le_of_eq K0.out.2.symm⟩
  have K1 : Hid ((Below w.heap.size w w1 ∧ D2 w1 w.heap.size (.int .i64 y) (.slice a n cap) ∧ D3 w1 (w.heap.size + 1) (.int .i64 s) (.int .i64 c) (.int .i64 t) ∧ D4 w1 (w.heap.size + 2) (.int .i64 0) (.int .i64 0) (.slice none 0 0) (.bool false)) ∧ w.heap.size + 3 ≤ w1.heap.size) := ⟨⟨K0'.out.1.1.trans (hb1.mono K0'.out.1.1.size), K0'.out.1.2.1.keep hb1, K0'.out.1.2.2.1.keep hb1, K0'.out.1.2.2.2.keep hb1⟩, Nat.le_trans K0'.out.2 hb1.size⟩
  clear hb1 K0 K0' HW HA
  by_cases hc : qc = 0
  rotate_left
  · have n0 : (qc != 0) = true := by simpa using hc
    have HE := hid11 (H1.out hc)
    clear H1 H2 H3 H4 H5 H6 HG HC HFD HAD HU
    obtain ⟨r0, r1, r2, r3, rf, _⟩ := K1.out.1.2.2.2
    go_wp2_with fail
    exact bodyPost_ret (v := .agg #[.int .i64 qc, .int .i64 0, .slice none 0 0, .bool false]) (by simp [results, Try.results10, go_sem, r0, r1, r2, r3]) rfl ⟨EnResO.mk HE.out rfl (OwnWt.none0 _ _) (by simp), ((((K1.out.1.1.setCell (by simp <;> omega) _).setCell (by simp <;> omega) _).setCell (by simp <;> omega) _).setCell (by simp <;> omega) _)⟩
  subst hc
  have hg := HG.out (by trivial)
  obtain ⟨hs, hcc, ht, hy, hln, _, _⟩ := hg
  rw [HN.out] at hln
  have HADD := hid11 (fun h => HAD.out h ht)
  clear HG HAD H1
  cases hx1 : timeB x
  · have HE := hid11 (H2.out (by trivial) (by rw [hx1]; rfl))
    clear H2 H3 H4 H5 H6 HC HFD HADD
    go_wp2_with fail
    refine (HU.out x _).mono ?_
    rintro e w2 ⟨rfl, rfl⟩
    rw [hx1]
    obtain ⟨r0, r1, r2, r3, rf, _⟩ := K1.out.1.2.2.2
    go_wp2_with fail
    exact bodyPost_ret (v := .agg #[.int .i64 3, .int .i64 0, .slice none 0 0, .bool false]) (by simp [results, Try.results10, go_sem, r0, r1, r2, r3]) rfl ⟨EnResO.mk HE.out rfl (OwnWt.none0 _ _) (by simp), ((((K1.out.1.1.setCell (by simp <;> omega) _).setCell (by simp <;> omega) _).setCell (by simp <;> omega) _).setCell (by simp <;> omega) _)⟩
  cases hx2 : timeB now
  · have HE := hid11 (H2.out (by trivial) (by rw [hx1, hx2]; rfl))
    clear H2 H3 H4 H5 H6 HC HFD HADD
    go_wp2_with fail
    refine (HU.out x _).mono ?_
    rintro e w2 ⟨rfl, rfl⟩
    rw [hx1]
    go_wp2_with fail
    refine (HU.out now _).mono ?_
    rintro e w2 ⟨rfl, rfl⟩
    rw [hx2]
    obtain ⟨r0, r1, r2, r3, rf, _⟩ := K1.out.1.2.2.2
    go_wp2_with fail
    exact bodyPost_ret (v := .agg #[.int .i64 3, .int .i64 0, .slice none 0 0, .bool false]) (by simp [results, Try.results10, go_sem, r0, r1, r2, r3]) rfl ⟨EnResO.mk HE.out rfl (OwnWt.none0 _ _) (by simp), ((((K1.out.1.1.setCell (by simp <;> omega) _).setCell (by simp <;> omega) _).setCell (by simp <;> omega) _).setCell (by simp <;> omega) _)⟩
  have HT12 : (timeB x && timeB now) = true := by rw [hx1, hx2]; rfl
  go_wp2_with fail
  refine (HU.out x _).mono ?_
  rintro e w2 ⟨rfl, rfl⟩
  rw [hx1]
  go_wp2_with fail
  refine (HU.out now _).mono ?_
  rintro e w2 ⟨rfl, rfl⟩
  rw [hx2]
  go_wp2_with fail
  refine (HFD.out _ K1.out.1).mono ?_
  rintro e w3 ⟨hfd, rfl⟩
  clear HFD
  rcases hfd with ⟨k, rfl, hk, hh⟩ | ⟨rfl, hh⟩
  · have HE := hid11 (H3.out (by trivial) HT12 hh)
    have gk : (0 : Int) ≤ k := by omega
    clear H2 H3 H4 H5 H6 HC HADD HU hh
    obtain ⟨r0, r1, r2, r3, rf, _⟩ := K1.out.1.2.2.2
    go_wp2_with fail
    exact bodyPost_ret (v := .agg #[.int .i64 6, .int .i64 0, .slice none 0 0, .bool false]) (by simp [results, Try.results10, go_sem, r0, r1, r2, r3]) rfl ⟨EnResO.mk HE.out rfl (OwnWt.none0 _ _) (by simp), ((((K1.out.1.1.setCell (by simp <;> omega) _).setCell (by simp <;> omega) _).setCell (by simp <;> omega) _).setCell (by simp <;> omega) _)⟩
  have HH4 := hid11 (H4.out (by trivial) HT12 hh)
  have HH5 := hid11 (H5.out (by trivial) HT12 hh)
  have HH6 := hid11 (H6.out (by trivial) HT12 hh)
  have HTN := hid11 (timeB_of hx2)
  clear H2 H3 H4 H5 H6 hh HU hx1 hx2 HT12
  go_wp2_with fail
  refine (HC.out _ K1.out.1).mono ?_
  rintro e w4 ⟨⟨va, vc, rfl, ho⟩, hb4⟩
  rw [HN.out] at ho ⊢
  have K2 : Hid ((Below w.heap.size w w4 ∧ D2 w4 w.heap.size (.int .i64 y) (.slice a n cap) ∧ D3 w4 (w.heap.size + 1) (.int .i64 s) (.int .i64 c) (.int .i64 t) ∧ D4 w4 (w.heap.size + 2) (.int .i64 0) (.int .i64 0) (.slice none 0 0) (.bool false)) ∧ w.heap.size + 3 ≤ w4.heap.size) := ⟨⟨K1.out.1.1.trans (hb4.mono K1.out.1.1.size), K1.out.1.2.1.keep hb4, K1.out.1.2.2.1.keep hb4, K1.out.1.2.2.2.keep hb4⟩, Nat.le_trans K1.out.2 hb4.size⟩
  obtain ⟨bs, hbs⟩ : ∃ b, w3.heap.size = b := ⟨_, rfl⟩
  rw [hbs] at ho
  have HB : Hid (w.heap.size + 3 ≤ bs ∧ bs ≤ w4.heap.size) := ⟨by rw [← hbs]; exact K1.out.2, by rw [← hbs]; exact hb4.size⟩
  have HO := hid11 ho
  have HNE : Hid (∀ q, (Value.slice va n vc).ownBlock = some q → bs ≤ q ∧ q < w4.heap.size) := fun q hq => World.ownsRow.lt ho q hq
  clear ho hb4 hbs K1 HC
  obtain ⟨V, hV⟩ : ∃ V, V = w4.alloc (.cells #[.int .i64 y, .slice va n vc] 26) := ⟨_, rfl⟩
  have HV : Hid (V = w4.alloc (.cells #[.int .i64 y, .slice va n vc] 26)) := hV
  have bV : Below w4.heap.size w4 V := by rw [hV]; exact (Below.refl _ _).alloc (Nat.le_refl _) _
  have oV : D2 V w4.heap.size (.int .i64 y) (.slice va n vc) := by rw [hV]; exact D2.new w4 _ _ _
  have K3 : Hid ((Below w.heap.size w V ∧ D2 V w.heap.size (.int .i64 y) (.slice a n cap) ∧ D3 V (w.heap.size + 1) (.int .i64 s) (.int .i64 c) (.int .i64 t) ∧ D4 V (w.heap.size + 2) (.int .i64 0) (.int .i64 0) (.slice none 0 0) (.bool false)) ∧ w.heap.size + 3 ≤ V.heap.size) := ⟨⟨K2.out.1.1.trans (bV.mono K2.out.1.1.size), K2.out.1.2.1.keep bV, K2.out.1.2.2.1.keep bV, K2.out.1.2.2.2.keep bV⟩, Nat.le_trans K2.out.2 bV.size⟩
  have HOV := hid11 (HO.out.below bV)
  have HSZ : Hid (V.heap.size = w4.heap.size + 1) := by show _ = _; rw [hV]; simp
  obtain ⟨O, hO⟩ : ∃ b, w4.heap.size = b := ⟨_, rfl⟩
  rw [hO] at oV HB HSZ HNE
  have HOX := hid11 oV
  clear bV hV K2 HO oV
  obtain ⟨e0, e1, ef, _⟩ := K3.out.1.2.1
  obtain ⟨f0, f1, f2, ff, _⟩ := K3.out.1.2.2.1
  obtain ⟨o0, o1, of, _⟩ := HOX.out
  go_upto_region 9 with fail
  rw [← HV.out]
  clear HV hO
  have ne1 : ¬ O = w.heap.size + 1 + 1 := by have := HB.out; omega
  have ne2 : ¬ w.heap.size + 1 + 1 = O := by have := HB.out; omega
  have ne3 : ¬ O = w.heap.size + 2 := by have := HB.out; omega
  have ne4 : ¬ w.heap.size + 2 = O := by have := HB.out; omega
  by_cases hys : y < s
  · have HE := hid11 (HH4.out hys)
    have wy : IntKind.i64.wrap (y + 1) = y + 1 := by rw [IntKind.wrap_i64]; omega
    obtain ⟨r0, r1, r2, r3, rf, _⟩ := K3.out.1.2.2.2
    have HNW : Hid (∀ x0 y0 y1 y2 y3, OwnWt (((((V.setCell ⟨O, 0, none⟩ x0).setCell ⟨w.heap.size + 2, 0, none⟩ y0).setCell ⟨w.heap.size + 2, 1, none⟩ y1).setCell ⟨w.heap.size + 2, 2, none⟩ y2).setCell ⟨w.heap.size + 2, 3, none⟩ y3) w.heap.size (.slice va n vc) l) := fun x0 y0 y1 y2 y3 => by
      have hh := HB.out
      refine OwnWt.lower ?_ (Nat.le_trans (Nat.le_add_right _ 3) hh.1)
      refine OwnWt.gw (g := w.heap.size + 2) ?_ (gwSet _ _ _ _) (by omega)
      refine OwnWt.gw (g := w.heap.size + 2) ?_ (gwSet _ _ _ _) (by omega)
      refine OwnWt.gw (g := w.heap.size + 2) ?_ (gwSet _ _ _ _) (by omega)
      refine OwnWt.gw (g := w.heap.size + 2) ?_ (gwSet _ _ _ _) (by omega)
      exact OwnWt.gwX (g := O) HOV.out (gwSet _ _ _ _) (fun G hG => by have := HNE.out G hG; omega)
    have HCP := hid11 HOV.out.cap
    have HOW : Hid (w.heap.size ≤ O) := by show _ ≤ _; have := HB.out; omega
    clear HH4 HH5 HH6 HADD HTN HNE HOV HOX
    go_wp2_with fail
    exact bodyPost_ret (v := .agg #[.int .i64 0, .int .i64 (y + 1), .slice va n vc, .bool true]) (by simp [results, Try.results10, go_sem, r0, r1, r2, r3]) rfl ⟨EnResO.mk HE.out HN.out (HNW.out _ _ _ _ _) HCP.out, (((((K3.out.1.1.setCell HOW.out _).setCell (by simp <;> omega) _).setCell (by simp <;> omega) _).setCell (by simp <;> omega) _).setCell (by simp <;> omega) _)⟩
  by_cases hcn : c ≤ (n : Int)
  · have HE := hid11 (HH5.out (by omega) (by omega))
    obtain ⟨r0, r1, r2, r3, rf, _⟩ := K3.out.1.2.2.2
    clear HH4 HH5 HH6 HADD HTN HNE HOV HOX
    go_wp2_with fail
    exact bodyPost_ret (v := .agg #[.int .i64 7, .int .i64 0, .slice none 0 0, .bool false]) (by simp [results, Try.results10, go_sem, r0, r1, r2, r3]) rfl ⟨EnResO.mk HE.out rfl (OwnWt.none0 _ _) (by simp), ((((K3.out.1.1.setCell (by simp <;> omega) _).setCell (by simp <;> omega) _).setCell (by simp <;> omega) _).setCell (by simp <;> omega) _)⟩
  have HE := hid11 (HH6.out (by omega) (by omega))
  have CAD := hid11 (HADD.out HTN.out)
  clear HH4 HH5 HH6 HADD HTN
  generalize addT now t = due at *
  have HKS : Hid (∀ X, Below V.heap.size V X → (fun X : World => X.cell? ⟨O, 1, none⟩ = some (.slice va n vc) ∧ X.cell? ⟨w.heap.size + 1, 2, none⟩ = some (.int .i64 t)) X) := fun X hb => ⟨(HOX.out.keep hb).c1, (K3.out.1.2.2.1.keep hb).c2⟩
  have B0 : Hid (Below V.heap.size V V.drew) := (Below.refl _ _).drew
  have HS0 := hid11 (HKS.out _ B0.out)
  go_wp2_with fail
  clear e0 e1 ef f0 f1 f2 ff o0 o1 of
  refine wp_region_last (fun X : World => X.cell? ⟨O, 1, none⟩ = some (.slice va n vc) ∧ X.cell? ⟨w.heap.size + 1, 2, none⟩ = some (.int .i64 t)) 11 (by kernel_rfl) ?_
  refine butLast_take (i := 0) (v := .pointer (some ⟨O, 1, none⟩)) rfl (by kernel_rfl) (by kernel_rfl) (by kernel_rfl) (by kernel_rfl) (fun _ _ _ h => h) (Or.inl ⟨by kernel_rfl, ?_⟩) HS0.out ?_
  · rintro X ⟨s1, s2⟩
    go_simp
  try simp only [Act.put, List.setIfInBounds_toArray, List.set_cons_zero, List.set_cons_succ]
  refine butLast_take (i := 1) (v := .slice va n vc) rfl (by kernel_rfl) (by kernel_rfl) (by kernel_rfl) (by kernel_rfl) (fun _ _ _ h => h) (Or.inl ⟨by kernel_rfl, ?_⟩) HS0.out ?_
  · rintro X ⟨s1, s2⟩
    go_simp
  try simp only [Act.put, List.setIfInBounds_toArray, List.set_cons_zero, List.set_cons_succ]
  refine butLast_take (i := 2) (v := .int .i64 x) rfl (by kernel_rfl) (by kernel_rfl) (by kernel_rfl) (by kernel_rfl) (fun _ _ _ h => h) (Or.inl ⟨by kernel_rfl, ?_⟩) HS0.out ?_
  · rintro X ⟨s1, s2⟩
    go_simp
  try simp only [Act.put, List.setIfInBounds_toArray, List.set_cons_zero, List.set_cons_succ]
  refine butLast_take (i := 3) (v := .int .i64 now) rfl (by kernel_rfl) (by kernel_rfl) (by kernel_rfl) (by kernel_rfl) (fun _ _ _ h => h) (Or.inl ⟨by kernel_rfl, ?_⟩) HS0.out ?_
  · rintro X ⟨s1, s2⟩
    go_simp
  try simp only [Act.put, List.setIfInBounds_toArray, List.set_cons_zero, List.set_cons_succ]
  refine butLast_take (i := 4) (v := .pointer (some ⟨w.heap.size + 1, 2, none⟩)) rfl (by kernel_rfl) (by kernel_rfl) (by kernel_rfl) (by kernel_rfl) (fun _ _ _ h => h) (Or.inl ⟨by kernel_rfl, ?_⟩) HS0.out ?_
  · rintro X ⟨s1, s2⟩
    go_simp
  try simp only [Act.put, List.setIfInBounds_toArray, List.set_cons_zero, List.set_cons_succ]
  refine butLast_take (i := 5) (v := .int .i64 t) rfl (by kernel_rfl) (by kernel_rfl) (by kernel_rfl) (by kernel_rfl) (fun _ _ _ h => h) (Or.inl ⟨by kernel_rfl, ?_⟩) HS0.out ?_
  · rintro X ⟨s1, s2⟩
    go_simp
  try simp only [Act.put, List.setIfInBounds_toArray, List.set_cons_zero, List.set_cons_succ]
  refine butLast_one (i := 6) rfl (by kernel_rfl) (fun K hK => ?_)
  go_simp
  refine (CAD.out _).mono ?_
  rintro e wa ⟨rfl, rfl⟩
  refine hK _ _ (.inr (HKS.out _ B0.out)) ?_
  clear hK K
  try simp only [Act.put, List.setIfInBounds_toArray, List.set_cons_zero, List.set_cons_succ]
  refine butLast_one (i := 7) rfl (by kernel_rfl) (fun K hK => ?_)
  go_simp
  refine hK _ _ (.inr (HKS.out _ B0.out)) ?_
  clear hK K
  try simp only [Act.put, List.setIfInBounds_toArray, List.set_cons_zero, List.set_cons_succ]
  have B1 : Hid (Below V.heap.size V (V.alloc (.cells #[.int .i64 x, .int .i64 due] 40)).drew) := ((Below.refl _ _).alloc (Nat.le_refl _) _).drew
  refine butLast_one (i := 8) rfl (by kernel_rfl) (fun K hK => ?_)
  go_simp
  refine hK _ _ (.inr (HKS.out _ B1.out)) ?_
  clear hK K
  try simp only [Act.put, List.setIfInBounds_toArray, List.set_cons_zero, List.set_cons_succ]
  obtain ⟨X3, hX3⟩ : ∃ X3, X3 = (V.alloc (.cells #[.int .i64 x, .int .i64 due] 40)).drew := ⟨_, rfl⟩
  have N3 : Hid (X3.cell? ⟨V.heap.size, 0, none⟩ = some (.int .i64 x) ∧ X3.cell? ⟨V.heap.size, 1, none⟩ = some (.int .i64 due)) := by rw [hX3]; exact ⟨by simp, by simp⟩
  rw [← hX3] at B1 ⊢
  clear hX3
  have O3 := hid11 (HOV.out.below B1.out)
  have bs3 : Hid (bs ≤ X3.heap.size) := Nat.le_trans (by have := HB.out; have := HSZ.out; omega) B1.out.size
  refine butLast_one (i := 9) rfl (by kernel_rfl) (fun K hK => ?_)
  refine step_append1Wt X3 (by rfl) _ _ (by rfl) bs _ l ⟨x, due⟩ V.heap.size n HN.out (by rfl) O3.out (by rfl) N3.out.1 N3.out.2 (by omega) bs3.out ?_
  intro g5 vc5 w5 h41 h42 h43
  have hnO : (Value.slice va n vc).ownBlock ≠ some O := fun e => by have := HNE.out O e; omega
  have hgO : g5 ≠ O ∧ bs ≤ g5 := by
    refine ⟨?_, row_ge h41 g5 rfl⟩
    rcases h43 with h43 | h43
    · have := HNE.out g5 h43; omega
    · have := HSZ.out; have := B1.out.size; omega
  have hlow : ∀ b, b < w.heap.size + 3 → (Value.slice va n vc).ownBlock ≠ some b := fun b hb e => by have := HNE.out b e; have := HB.out; omega
  have O5 := (HOX.out.keep B1.out).go h42 hnO
  have R5 := (K3.out.1.2.2.2.keep B1.out).go h42 (hlow _ (by omega))
  have L5 := (K3.out.1.2.2.1.keep B1.out).go h42 (hlow _ (by omega))
  have W5 : Below w.heap.size w w5 := (K3.out.1.1.trans (B1.out.mono K3.out.1.1.size)).trans ⟨h42.os, h42.tape, h42.output, h42.size, fun k hk => h42.block k (Nat.lt_of_lt_of_le hk (K3.out.1.1.trans (B1.out.mono K3.out.1.1.size)).size) (fun e => hlow k (by omega) e.symm)⟩
  have HF5 : Hid (OwnWt w5 bs (.slice (some ⟨g5, 0, none⟩) (n + 1) vc5) (l ++ [⟨x, due⟩]) ∧ Below w.heap.size w w5 ∧ g5 ≠ O) := ⟨h41, W5, hgO.1⟩
  have HL5 : Hid ((l ++ [(⟨x, due⟩ : Wt)]).length = n + 1) := by show _ = _; rw [List.length_append, HN.out]; rfl
  have HS5 := hid11 (show w5.cell? ⟨O, 1, none⟩ = some (.slice va n vc) ∧ w5.cell? ⟨w.heap.size + 1, 2, none⟩ = some (.int .i64 t) from ⟨O5.c1, L5.c2⟩)
  have HO5 := hid11 O5
  have HR5 := hid11 R5
  clear h41 h42 h43 hnO hgO hlow O5 R5 L5 W5 O3 bs3 N3 HOV HNE HSZ HS0 HKS K3 B1 HOX
  refine hK _ _ (.inr HS5.out) ?_
  clear hK K
  try simp only [Act.put, List.setIfInBounds_toArray, List.set_cons_zero, List.set_cons_succ]
  refine butLast_one (i := 10) rfl (by kernel_rfl) (fun K hK => ?_)
  go_simp
  refine hK _ _ (.inr HS5.out) ?_
  clear hK K
  try simp only [Act.put, List.setIfInBounds_toArray, List.set_cons_zero, List.set_cons_succ]
  have y1 := HO5.out.c1
  have yf := HO5.out.fr 1
  obtain ⟨V6, hV6⟩ : ∃ V6, V6 = w5.setCell ⟨O, 1, none⟩ (.slice (some ⟨g5, 0, none⟩) (n + 1) vc5) := ⟨_, rfl⟩
  have O6 : D2 V6 O (.int .i64 y) (.slice (some ⟨g5, 0, none⟩) (n + 1) vc5) := by
    rw [hV6]
    exact ⟨by rw [World.cell?_setCell_other _ _ _ _ (fun e => by have := congrArg Addr.off e; simp at this)]; exact HO5.out.c0, World.cell?_setCell_same _ _ _ y1, fun o => by rw [World.frozen?_setCell]; exact HO5.out.fr o, by simpa using HO5.out.lt⟩
  have R6 := HR5.out.gw (by rw [hV6]; exact gwSet w5 O 1 _ : w5.grownBy V6 (some O)) (fun e => by have := HB.out; omega)
  have W6 : Below w.heap.size w V6 := by rw [hV6]; exact HF5.out.2.1.setCell (by have := HB.out; simp; omega) _
  have M6 : OwnWt V6 bs (.slice (some ⟨g5, 0, none⟩) (n + 1) vc5) (l ++ [⟨x, due⟩]) := HF5.out.1.gwX (by rw [hV6]; exact gwSet w5 O 1 _ : w5.grownBy V6 (some O)) (fun G hG => by simp only [Value.ownBlock, Option.some.injEq] at hG; have := HF5.out.2.2; omega)
  have HV6 := hid11 hV6
  refine butLast_one (i := 11) rfl (by kernel_rfl) (fun K hK => ?_)
  go_simp
  refine hK _ _ (.inl rfl) ?_
  clear hK K
  refine butLast_end (by kernel_rfl) ?_
  rw [← HV6.out]
  have HM6 := hid11 M6
  have HW6 := hid11 W6
  have HC6 := hid11 HF5.out.1.cap
  obtain ⟨o0, o1, of, _⟩ := O6
  obtain ⟨r0, r1, r2, r3, rf, _⟩ := R6
  have HNW : Hid (∀ y0 y1 y2 y3, OwnWt ((((V6.setCell ⟨w.heap.size + 2, 0, none⟩ y0).setCell ⟨w.heap.size + 2, 1, none⟩ y1).setCell ⟨w.heap.size + 2, 2, none⟩ y2).setCell ⟨w.heap.size + 2, 3, none⟩ y3) w.heap.size (.slice (some ⟨g5, 0, none⟩) (n + 1) vc5) (l ++ [⟨x, due⟩])) := fun y0 y1 y2 y3 => by
    have hh := HB.out
    refine OwnWt.lower ?_ (Nat.le_trans (Nat.le_add_right _ 3) hh.1)
    refine OwnWt.gw (g := w.heap.size + 2) ?_ (gwSet _ _ _ _) (by omega)
    refine OwnWt.gw (g := w.heap.size + 2) ?_ (gwSet _ _ _ _) (by omega)
    refine OwnWt.gw (g := w.heap.size + 2) ?_ (gwSet _ _ _ _) (by omega)
    exact OwnWt.gw (g := w.heap.size + 2) HM6.out (gwSet _ _ _ _) (by omega)
  clear y1 yf hV6 HV6 M6 W6 HF5 HO5 HR5 HS5 HM6
  go_wp2_with fail
  exact bodyPost_ret (v := .agg #[.int .i64 0, .int .i64 y, .slice (some ⟨g5, 0, none⟩) (n + 1) vc5, .bool false]) (by simp [results, Try.results10, go_sem, r0, r1, r2, r3]) rfl ⟨EnResO.mk HE.out HL5.out (HNW.out _ _ _ _) HC6.out, ((((HW6.out.setCell (by simp <;> omega) _).setCell (by simp <;> omega) _).setCell (by simp <;> omega) _).setCell (by simp <;> omega) _)⟩
end Go.Proofs.Ytmgidcigihpbeaa
