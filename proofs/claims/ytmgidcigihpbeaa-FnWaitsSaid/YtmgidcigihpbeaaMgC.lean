/-
  Texts of one claim, one behind the other.
-/
import Derived.BigQuiet
import Derived.Deep.CutBlock
import Derived.Deep.CutRange
import Derived.Deep.RegionHeld3
import Derived.Lib.QuietBelow
import Derived.Test.YtmgidcigihpbeaaMgB
/-
  NoteOutcome, by the program.
-/
namespace Go.Proofs.Ytmgidcigihpbeaa
open Go.ChangeShapes Go.WideShapes Go.ChangeAt Go.RowKit Go.Sort
set_option maxHeartbeats 8000000 in
theorem implNote_bad (w : World) (s t o : Int) (a : Option Addr) (cap : Nat) (l : List Mk) (a0 a1 a2 a3 a4 now : Int) (good : Bool) (q : Int × Bk) (hq : q = (turnC s t o l a0 a1 a2 a3 a4 now, ⟨0, 0, 0, []⟩)) (hi : MkIn w a l) (ht : ¬ turnC s t o l a0 a1 a2 a3 a4 now = 0) :
    Calls Try.prog 33 #[.agg #[.int .i64 s, .int .i64 t, .int .i64 o, .slice a l.length cap], .agg #[.int .i64 a0, .int .i64 a1, .int .i64 a2, .int .i64 a3, .int .i64 a4], .int .i64 now, .bool good] w fun e w' => NoteRes w' w.heap.size q e ∧ Below w.heap.size w w' := by
  obtain ⟨W, hW⟩ : ∃ W, W = ((w.alloc (.cells #[.int .i64 s, .int .i64 t, .int .i64 o, .slice a l.length cap] 51)).alloc (.cells #[.int .i64 a0, .int .i64 a1, .int .i64 a2, .int .i64 a3, .int .i64 a4] 53)).alloc (.cells #[.int .i64 0, .int .i64 0, .int .i64 0, .int .i64 0, .slice none 0 0] 64) := ⟨_, rfl⟩
  have HW : Hid (W = ((w.alloc (.cells #[.int .i64 s, .int .i64 t, .int .i64 o, .slice a l.length cap] 51)).alloc (.cells #[.int .i64 a0, .int .i64 a1, .int .i64 a2, .int .i64 a3, .int .i64 a4] 53)).alloc (.cells #[.int .i64 0, .int .i64 0, .int .i64 0, .int .i64 0, .slice none 0 0] 64)) := hW
  have K0 : Hid ((Below w.heap.size w W ∧ S4 W w.heap.size (.int .i64 s) (.int .i64 t) (.int .i64 o) (.slice a l.length cap) ∧ S5 W (w.heap.size + 1) (.int .i64 a0) (.int .i64 a1) (.int .i64 a2) (.int .i64 a3) (.int .i64 a4) ∧ C5 W (w.heap.size + 2) (.int .i64 0) (.int .i64 0) (.int .i64 0) (.int .i64 0) (.slice none 0 0)) ∧ W.heap.size = w.heap.size + 3) := by
    have h1 := S4.new w (.int .i64 s) (.int .i64 t) (.int .i64 o) (.slice a l.length cap) 51
    obtain ⟨W1, hW1⟩ : ∃ W1, W1 = w.alloc (.cells #[.int .i64 s, .int .i64 t, .int .i64 o, .slice a l.length cap] 51) := ⟨_, rfl⟩
    rw [← hW1] at h1 hW
    have e1 : W1.heap.size = w.heap.size + 1 := by rw [hW1]; simp
    have b1 : Below w.heap.size w W1 := by rw [hW1]; exact (Below.refl _ _).alloc (Nat.le_refl _) _
    have h2 := S5.new W1 (.int .i64 a0) (.int .i64 a1) (.int .i64 a2) (.int .i64 a3) (.int .i64 a4) 53
    obtain ⟨W2, hW2⟩ : ∃ W2, W2 = W1.alloc (.cells #[.int .i64 a0, .int .i64 a1, .int .i64 a2, .int .i64 a3, .int .i64 a4] 53) := ⟨_, rfl⟩
    rw [← hW2] at h2 hW
    have e2 : W2.heap.size = w.heap.size + 2 := by rw [hW2]; simp [e1]
    have b2 : Below W1.heap.size W1 W2 := by rw [hW2]; exact (Below.refl _ _).alloc (Nat.le_refl _) _
    have b3 : Below W2.heap.size W2 W := by rw [hW]; exact (Below.refl _ _).alloc (Nat.le_refl _) _
    have h3 := C5.new W2 (.int .i64 0) (.int .i64 0) (.int .i64 0) (.int .i64 0) (.slice none 0 0) 64
    rw [← hW] at h3
    rw [e1] at h2
    rw [e2] at h3
    have b13 := b2.trans (b3.mono b2.size)
    exact ⟨⟨b1.trans (b13.mono b1.size), h1.keep b13, h2.keep b3, h3⟩, by rw [hW]; simp [e2]⟩
  have HA : Hid (Calls Try.prog 62 #[.agg #[.int .i64 s, .int .i64 t, .int .i64 o, .slice a l.length cap], .agg #[.int .i64 a0, .int .i64 a1, .int .i64 a2, .int .i64 a3, .int .i64 a4], .int .i64 now] W fun e w' => e = .returned (.int .i64 (turnC s t o l a0 a1 a2 a3 a4 now)) ∧ Below W.heap.size W w') := implAsk_any W s t o a cap l a0 a1 a2 a3 a4 now (hi.keep K0.out.1.1)
  have HE : Hid (q = (turnC s t o l a0 a1 a2 a3 a4 now, ⟨0, 0, 0, []⟩)) := hq
  clear hi hW hq
  generalize turnC s t o l a0 a1 a2 a3 a4 now = c at *
  generalize l.length = n at *
  go_enter Try.func33, Try.ntmps33
  go_wp2_with fail
  rw [← HW.out]
  refine HA.out.mono ?_
  rintro e w1 ⟨rfl, hb1⟩
  have K1 : Hid (Below w.heap.size w w1 ∧ C5 w1 (w.heap.size + 2) (.int .i64 0) (.int .i64 0) (.int .i64 0) (.int .i64 0) (.slice none 0 0)) := ⟨K0.out.1.1.trans (hb1.mono K0.out.1.1.size), K0.out.1.2.2.2.keep hb1⟩
  clear hb1 K0 HW HA
  have n0 : (c != 0) = true := by simpa using ht
  obtain ⟨r0, r1, r2, r3, r4, rf, _⟩ := K1.out.2
  go_wp2_with fail
  exact bodyPost_ret (v := .agg #[.int .i64 c, .int .i64 0, .int .i64 0, .int .i64 0, .slice none 0 0]) (by simp [results, Try.results33, go_sem, r0, r1, r2, r3, r4]) rfl ⟨NoteRes.mk HE.out rfl (MkNew.nil _ _ _ _), ((((K1.out.1.setCell (by simp <;> omega) _).setCell (by simp <;> omega) _).setCell (by simp <;> omega) _).setCell (by simp <;> omega) _).setCell (by simp <;> omega) _⟩
set_option maxRecDepth 100000 in
set_option maxHeartbeats 8000000 in
theorem implNote_0g (w : World) (t : Int) (a : Option Addr) (cap : Nat) (l : List Mk) (a0 a1 a2 a3 a4 now : Int) (good : Bool) (q : Int × Bk) (hq : q = (0, ⟨0, t, 0, noteL l a0 now good⟩)) (hl : l.length ≤ 1048576) (hi : MkIn w a l) (ht : turnC 0 t 0 l a0 a1 a2 a3 a4 now = 0) (htb : tooB (noteL l a0 now good) a1 a2 = false) :
    Calls Try.prog 33 #[.agg #[.int .i64 0, .int .i64 t, .int .i64 0, .slice a l.length cap], .agg #[.int .i64 a0, .int .i64 a1, .int .i64 a2, .int .i64 a3, .int .i64 a4], .int .i64 now, .bool good] w fun e w' => NoteRes w' w.heap.size q e ∧ Below w.heap.size w w' := by
  obtain ⟨W, hW⟩ : ∃ W, W = ((w.alloc (.cells #[.int .i64 0, .int .i64 t, .int .i64 0, .slice a l.length cap] 51)).alloc (.cells #[.int .i64 a0, .int .i64 a1, .int .i64 a2, .int .i64 a3, .int .i64 a4] 53)).alloc (.cells #[.int .i64 0, .int .i64 0, .int .i64 0, .int .i64 0, .slice none 0 0] 64) := ⟨_, rfl⟩
  have HW : Hid (W = ((w.alloc (.cells #[.int .i64 0, .int .i64 t, .int .i64 0, .slice a l.length cap] 51)).alloc (.cells #[.int .i64 a0, .int .i64 a1, .int .i64 a2, .int .i64 a3, .int .i64 a4] 53)).alloc (.cells #[.int .i64 0, .int .i64 0, .int .i64 0, .int .i64 0, .slice none 0 0] 64)) := hW
  have K0 : Hid ((Below w.heap.size w W ∧ S4 W w.heap.size (.int .i64 0) (.int .i64 t) (.int .i64 0) (.slice a l.length cap) ∧ S5 W (w.heap.size + 1) (.int .i64 a0) (.int .i64 a1) (.int .i64 a2) (.int .i64 a3) (.int .i64 a4) ∧ C5 W (w.heap.size + 2) (.int .i64 0) (.int .i64 0) (.int .i64 0) (.int .i64 0) (.slice none 0 0)) ∧ W.heap.size = w.heap.size + 3) := by
    have h1 := S4.new w (.int .i64 0) (.int .i64 t) (.int .i64 0) (.slice a l.length cap) 51
    obtain ⟨W1, hW1⟩ : ∃ W1, W1 = w.alloc (.cells #[.int .i64 0, .int .i64 t, .int .i64 0, .slice a l.length cap] 51) := ⟨_, rfl⟩
    rw [← hW1] at h1 hW
    have e1 : W1.heap.size = w.heap.size + 1 := by rw [hW1]; simp
    have b1 : Below w.heap.size w W1 := by rw [hW1]; exact (Below.refl _ _).alloc (Nat.le_refl _) _
    have h2 := S5.new W1 (.int .i64 a0) (.int .i64 a1) (.int .i64 a2) (.int .i64 a3) (.int .i64 a4) 53
    obtain ⟨W2, hW2⟩ : ∃ W2, W2 = W1.alloc (.cells #[.int .i64 a0, .int .i64 a1, .int .i64 a2, .int .i64 a3, .int .i64 a4] 53) := ⟨_, rfl⟩
    rw [← hW2] at h2 hW
    have e2 : W2.heap.size = w.heap.size + 2 := by rw [hW2]; simp [e1]
    have b2 : Below W1.heap.size W1 W2 := by rw [hW2]; exact (Below.refl _ _).alloc (Nat.le_refl _) _
    have b3 : Below W2.heap.size W2 W := by rw [hW]; exact (Below.refl _ _).alloc (Nat.le_refl _) _
    have h3 := C5.new W2 (.int .i64 0) (.int .i64 0) (.int .i64 0) (.int .i64 0) (.slice none 0 0) 64
    rw [← hW] at h3
    rw [e1] at h2
    rw [e2] at h3
    have b13 := b2.trans (b3.mono b2.size)
    exact ⟨⟨b1.trans (b13.mono b1.size), h1.keep b13, h2.keep b3, h3⟩, by rw [hW]; simp [e2]⟩
  have HG := good_of ht
  have HA : Hid (Calls Try.prog 62 #[.agg #[.int .i64 0, .int .i64 t, .int .i64 0, .slice a l.length cap], .agg #[.int .i64 a0, .int .i64 a1, .int .i64 a2, .int .i64 a3, .int .i64 a4], .int .i64 now] W fun e w' => e = .returned (.int .i64 0) ∧ Below W.heap.size W w') := by
    have := implAsk_any W 0 t 0 a cap l a0 a1 a2 a3 a4 now (hi.keep K0.out.1.1)
    rw [ht] at this
    exact this
  have HC : Hid (∀ X, Below W.heap.size W X → Calls Try.prog 64 #[.agg #[.int .i64 0, .int .i64 t, .int .i64 0, .slice a l.length cap]] X fun e w' => CondR w' X.heap.size t l e ∧ Below X.heap.size X w') := fun X hX => condC t 0 a cap l hl X ((hi.keep K0.out.1.1).keep hX)
  obtain ⟨nl, hnl⟩ : ∃ nl, noteL l a0 now good = nl := ⟨_, rfl⟩
  have HQ0 : Hid (∀ X va vc, MkNew X W.heap.size (.slice va l.length vc) l → Calls Try.prog 73 #[.iface 139 (.agg #[.int .i64 t, .slice va l.length vc]), .agg #[.int .i64 a0, .int .i64 a1, .int .i64 a2, .int .i64 a3, .int .i64 a4], .agg #[.int .i64 now, .bool good]] X fun e w' => MarkR w' X.heap.size t nl e ∧ Below X.heap.size X w') := fun X va vc h => by
    have hin : MkIn X va l := by obtain ⟨x, y, e, hin⟩ := h.in; simp only [Value.slice.injEq] at e; rw [e.1]; exact hin
    refine (noteC_any X t va vc l a0 a1 a2 a3 a4 now good HG.hn hin ⟨by have := HG.hr0; omega, HG.hr0.2⟩ HG.hr2 HG.hts).mono ?_
    rintro e w' ⟨hR, hb⟩
    rw [hnl] at hR
    refine ⟨?_, hb⟩
    rcases hR with ⟨h1, h2⟩ | ⟨h1, h2⟩
    · rw [← hnl] at h1; rw [h1] at htb; cases htb
    · exact h2
  have HM0 : Hid (∀ xa m xc X, Calls Try.prog 115 #[.agg #[.int .i64 t, .slice xa m xc]] X fun e w' => e = .returned (.agg #[.int .i64 0, .int .i64 t, .int .i64 0, .slice xa m xc]) ∧ Below X.heap.size X w') := fun xa m xc X => breakC t xa m xc X
  have HE : Hid (q = (0, ⟨0, t, 0, nl⟩)) := by show _ = _; rw [← hnl, hq]
  have hWW : Hid (w.heap.size ≤ W.heap.size) := K0.out.1.1.size
  clear hW HG hq ht hi hl htb
  obtain ⟨n, hn⟩ : ∃ n, l.length = n := ⟨_, rfl⟩
  have HN : Hid (l.length = n) := hn
  obtain ⟨m, hmm⟩ : ∃ m, nl.length = m := ⟨_, rfl⟩
  have HML : Hid (nl.length = m) := hmm
  have HQ : Hid (∀ X va vc, MkNew X W.heap.size (.slice va n vc) l → Calls Try.prog 73 #[.iface 139 (.agg #[.int .i64 t, .slice va n vc]), .agg #[.int .i64 a0, .int .i64 a1, .int .i64 a2, .int .i64 a3, .int .i64 a4], .agg #[.int .i64 now, .bool good]] X fun e w' => MarkR w' X.heap.size t nl e ∧ Below X.heap.size X w') := by rw [← hn]; exact HQ0.out
  rw [hn] at HW K0 HA HC ⊢
  clear hn hmm HQ0 hnl
  go_enter Try.func33, Try.ntmps33
  go_wp2_with fail
  rw [← HW.out]
  refine HA.out.mono ?_
  rintro e w1 ⟨rfl, hb1⟩
  have HK1 : Hid (∀ X, Below w1.heap.size w1 X → Below w.heap.size w X ∧ S4 X w.heap.size (.int .i64 0) (.int .i64 t) (.int .i64 0) (.slice a n cap) ∧ S5 X (w.heap.size + 1) (.int .i64 a0) (.int .i64 a1) (.int .i64 a2) (.int .i64 a3) (.int .i64 a4) ∧ C5 X (w.heap.size + 2) (.int .i64 0) (.int .i64 0) (.int .i64 0) (.int .i64 0) (.slice none 0 0)) := fun X hX => by
    have b := hb1.trans (hX.mono hb1.size)
    exact ⟨K0.out.1.1.trans (b.mono K0.out.1.1.size), K0.out.1.2.1.keep b, K0.out.1.2.2.1.keep b, K0.out.1.2.2.2.keep b⟩
  have hup : w.heap.size + 3 ≤ w1.heap.size := by have := hb1.size; rw [K0.out.2] at this; exact this
  have hW1 : W.heap.size ≤ w1.heap.size := hb1.size
  have HC1 : Hid (∀ X, Below w1.heap.size w1 X → Calls Try.prog 64 #[.agg #[.int .i64 0, .int .i64 t, .int .i64 0, .slice a n cap]] X fun e w' => CondR w' X.heap.size t l e ∧ Below X.heap.size X w') := fun X hX => HC.out X (hb1.trans (hX.mono hb1.size))
  clear hb1 K0 HW HA HC
  have HKS : Hid (∀ X, Below w1.heap.size w1 X → X.cell? ⟨w.heap.size, 0, none⟩ = some (.int .i64 0) ∧ X.cell? ⟨w.heap.size, 1, none⟩ = some (.int .i64 t) ∧ X.cell? ⟨w.heap.size, 2, none⟩ = some (.int .i64 0) ∧ X.cell? ⟨w.heap.size, 3, none⟩ = some (.slice a n cap) ∧ X.cell? ⟨w.heap.size + 1, 0, none⟩ = some (.int .i64 a0) ∧ X.cell? ⟨w.heap.size + 1, 1, none⟩ = some (.int .i64 a1) ∧ X.cell? ⟨w.heap.size + 1, 2, none⟩ = some (.int .i64 a2) ∧ X.cell? ⟨w.heap.size + 1, 3, none⟩ = some (.int .i64 a3) ∧ X.cell? ⟨w.heap.size + 1, 4, none⟩ = some (.int .i64 a4)) := fun X hb => ⟨(HK1.out X hb).2.1.c0, (HK1.out X hb).2.1.c1, (HK1.out X hb).2.1.c2, (HK1.out X hb).2.1.c3, (HK1.out X hb).2.2.1.c0, (HK1.out X hb).2.2.1.c1, (HK1.out X hb).2.2.1.c2, (HK1.out X hb).2.2.1.c3, (HK1.out X hb).2.2.1.c4⟩
  have B0 : Hid (Below w1.heap.size w1 w1.drew) := (Below.refl _ _).drew
  go_wp2_with fail
  go_region_held3 (fun X => X.cell? ⟨w.heap.size, 0, none⟩ = some (.int .i64 0) ∧ X.cell? ⟨w.heap.size, 1, none⟩ = some (.int .i64 t) ∧ X.cell? ⟨w.heap.size, 2, none⟩ = some (.int .i64 0) ∧ X.cell? ⟨w.heap.size, 3, none⟩ = some (.slice a n cap) ∧ X.cell? ⟨w.heap.size + 1, 0, none⟩ = some (.int .i64 a0) ∧ X.cell? ⟨w.heap.size + 1, 1, none⟩ = some (.int .i64 a1) ∧ X.cell? ⟨w.heap.size + 1, 2, none⟩ = some (.int .i64 a2) ∧ X.cell? ⟨w.heap.size + 1, 3, none⟩ = some (.int .i64 a3) ∧ X.cell? ⟨w.heap.size + 1, 4, none⟩ = some (.int .i64 a4))
    (first | exact HKS.out _ BB.out | exact HKS.out _ BA.out | exact HKS.out _ B0.out)
    (first
    | (go_at_call 73; refine (HQ.out _ _ _ MA.out).mono ?_; rintro r0 wb ⟨⟨xa, xc, rfl, mb⟩, hbb⟩; rw [HML.out] at mb ⊢; have BB : Hid (Below w1.heap.size w1 wb) := BA.out.trans (hbb.mono BA.out.size); have MB : Hid (MkNew wb w1.heap.size (.slice xa m xc) nl) := mb.lower BA.out.size; clear hbb mb)
    | (go_at_call 64; refine (HC1.out _ B0.out).mono ?_; rintro r0 wa ⟨⟨va, vc, rfl, ma⟩, hba⟩; rw [HN.out] at ma ⊢; have BA : Hid (Below w1.heap.size w1 wa) := B0.out.trans (hba.mono B0.out.size); have MA : Hid (MkNew wa W.heap.size (.slice va n vc) l) := ma.lower (Nat.le_trans hW1 B0.out.size); clear hba ma))
  all_goals
    have KZ := hid12 (HK1.out _ BB.out)
    clear HK1 HKS B0 BA BB HQ HC1 MA
    go_wp2_with fail
    refine (HM0.out _ _ _ _).mono ?_
    rintro e w4 ⟨rfl, hb4⟩
    have KY : Hid (Below w.heap.size w w4 ∧ C5 w4 (w.heap.size + 2) (.int .i64 0) (.int .i64 0) (.int .i64 0) (.int .i64 0) (.slice none 0 0) ∧ MkNew w4 w1.heap.size (.slice xa m xc) nl) := ⟨KZ.out.1.trans (hb4.mono KZ.out.1.size), KZ.out.2.2.2.keep hb4, MB.out.keep hb4⟩
    clear KZ hb4 HM0 MB
    obtain ⟨r0, r1, r2, r3, r4, rf, _⟩ := KY.out.2.1
    have HM : Hid (∀ x0 x1 x2 x3 x4, MkNew (((((w4.setCell ⟨w.heap.size + 2, 0, none⟩ x0).setCell ⟨w.heap.size + 2, 1, none⟩ x1).setCell ⟨w.heap.size + 2, 2, none⟩ x2).setCell ⟨w.heap.size + 2, 3, none⟩ x3).setCell ⟨w.heap.size + 2, 4, none⟩ x4) w.heap.size (.slice xa m xc) nl) := fun x0 x1 x2 x3 x4 => by
      refine MkNew.lower ?_ (show w.heap.size ≤ w1.heap.size by omega)
      exact ((((KY.out.2.2.gb2 (gbSet _ _ _ _) (by omega)).gb2 (gbSet _ _ _ _) (by omega)).gb2 (gbSet _ _ _ _) (by omega)).gb2 (gbSet _ _ _ _) (by omega)).gb2 (gbSet _ _ _ _) (by omega)
    go_wp2_with fail
    exact bodyPost_ret (v := .agg #[.int .i64 0, .int .i64 0, .int .i64 t, .int .i64 0, .slice xa m xc]) (by simp [results, Try.results33, go_sem, r0, r1, r2, r3, r4]) rfl ⟨NoteRes.mk HE.out HML.out (HM.out _ _ _ _ _), ((((KY.out.1.setCell (by simp <;> omega) _).setCell (by simp <;> omega) _).setCell (by simp <;> omega) _).setCell (by simp <;> omega) _).setCell (by simp <;> omega) _⟩
set_option maxRecDepth 100000 in
set_option maxHeartbeats 8000000 in
theorem implNote_0b (w : World) (t : Int) (a : Option Addr) (cap : Nat) (l : List Mk) (a0 a1 a2 a3 a4 now : Int) (good : Bool) (q : Int × Bk) (hq : q = (0, ⟨1, now, 0, []⟩)) (hl : l.length ≤ 1048576) (hi : MkIn w a l) (ht : turnC 0 t 0 l a0 a1 a2 a3 a4 now = 0) (htb : tooB (noteL l a0 now good) a1 a2 = true) :
    Calls Try.prog 33 #[.agg #[.int .i64 0, .int .i64 t, .int .i64 0, .slice a l.length cap], .agg #[.int .i64 a0, .int .i64 a1, .int .i64 a2, .int .i64 a3, .int .i64 a4], .int .i64 now, .bool good] w fun e w' => NoteRes w' w.heap.size q e ∧ Below w.heap.size w w' := by
  obtain ⟨W, hW⟩ : ∃ W, W = ((w.alloc (.cells #[.int .i64 0, .int .i64 t, .int .i64 0, .slice a l.length cap] 51)).alloc (.cells #[.int .i64 a0, .int .i64 a1, .int .i64 a2, .int .i64 a3, .int .i64 a4] 53)).alloc (.cells #[.int .i64 0, .int .i64 0, .int .i64 0, .int .i64 0, .slice none 0 0] 64) := ⟨_, rfl⟩
  have HW : Hid (W = ((w.alloc (.cells #[.int .i64 0, .int .i64 t, .int .i64 0, .slice a l.length cap] 51)).alloc (.cells #[.int .i64 a0, .int .i64 a1, .int .i64 a2, .int .i64 a3, .int .i64 a4] 53)).alloc (.cells #[.int .i64 0, .int .i64 0, .int .i64 0, .int .i64 0, .slice none 0 0] 64)) := hW
  have K0 : Hid ((Below w.heap.size w W ∧ S4 W w.heap.size (.int .i64 0) (.int .i64 t) (.int .i64 0) (.slice a l.length cap) ∧ S5 W (w.heap.size + 1) (.int .i64 a0) (.int .i64 a1) (.int .i64 a2) (.int .i64 a3) (.int .i64 a4) ∧ C5 W (w.heap.size + 2) (.int .i64 0) (.int .i64 0) (.int .i64 0) (.int .i64 0) (.slice none 0 0)) ∧ W.heap.size = w.heap.size + 3) := by
    have h1 := S4.new w (.int .i64 0) (.int .i64 t) (.int .i64 0) (.slice a l.length cap) 51
    obtain ⟨W1, hW1⟩ : ∃ W1, W1 = w.alloc (.cells #[.int .i64 0, .int .i64 t, .int .i64 0, .slice a l.length cap] 51) := ⟨_, rfl⟩
    rw [← hW1] at h1 hW
    have e1 : W1.heap.size = w.heap.size + 1 := by rw [hW1]; simp
    have b1 : Below w.heap.size w W1 := by rw [hW1]; exact (Below.refl _ _).alloc (Nat.le_refl _) _
    have h2 := S5.new W1 (.int .i64 a0) (.int .i64 a1) (.int .i64 a2) (.int .i64 a3) (.int .i64 a4) 53
    obtain ⟨W2, hW2⟩ : ∃ W2, W2 = W1.alloc (.cells #[.int .i64 a0, .int .i64 a1, .int .i64 a2, .int .i64 a3, .int .i64 a4] 53) := ⟨_, rfl⟩
    rw [← hW2] at h2 hW
    have e2 : W2.heap.size = w.heap.size + 2 := by rw [hW2]; simp [e1]
    have b2 : Below W1.heap.size W1 W2 := by rw [hW2]; exact (Below.refl _ _).alloc (Nat.le_refl _) _
    have b3 : Below W2.heap.size W2 W := by rw [hW]; exact (Below.refl _ _).alloc (Nat.le_refl _) _
    have h3 := C5.new W2 (.int .i64 0) (.int .i64 0) (.int .i64 0) (.int .i64 0) (.slice none 0 0) 64
    rw [← hW] at h3
    rw [e1] at h2
    rw [e2] at h3
    have b13 := b2.trans (b3.mono b2.size)
    exact ⟨⟨b1.trans (b13.mono b1.size), h1.keep b13, h2.keep b3, h3⟩, by rw [hW]; simp [e2]⟩
  have HG := good_of ht
  have HA : Hid (Calls Try.prog 62 #[.agg #[.int .i64 0, .int .i64 t, .int .i64 0, .slice a l.length cap], .agg #[.int .i64 a0, .int .i64 a1, .int .i64 a2, .int .i64 a3, .int .i64 a4], .int .i64 now] W fun e w' => e = .returned (.int .i64 0) ∧ Below W.heap.size W w') := by
    have := implAsk_any W 0 t 0 a cap l a0 a1 a2 a3 a4 now (hi.keep K0.out.1.1)
    rw [ht] at this
    exact this
  have HC : Hid (∀ X, Below W.heap.size W X → Calls Try.prog 64 #[.agg #[.int .i64 0, .int .i64 t, .int .i64 0, .slice a l.length cap]] X fun e w' => CondR w' X.heap.size t l e ∧ Below X.heap.size X w') := fun X hX => condC t 0 a cap l hl X ((hi.keep K0.out.1.1).keep hX)
  obtain ⟨nl, hnl⟩ : ∃ nl, noteL l a0 now good = nl := ⟨_, rfl⟩
  have HQ0 : Hid (∀ X va vc, MkNew X W.heap.size (.slice va l.length vc) l → Calls Try.prog 73 #[.iface 139 (.agg #[.int .i64 t, .slice va l.length vc]), .agg #[.int .i64 a0, .int .i64 a1, .int .i64 a2, .int .i64 a3, .int .i64 a4], .agg #[.int .i64 now, .bool good]] X fun e w' => e = .returned (.iface 134 (.agg #[.int .i64 now])) ∧ Below X.heap.size X w') := fun X va vc h => by
    have hin : MkIn X va l := by obtain ⟨x, y, e, hin⟩ := h.in; simp only [Value.slice.injEq] at e; rw [e.1]; exact hin
    refine (noteC_any X t va vc l a0 a1 a2 a3 a4 now good HG.hn hin ⟨by have := HG.hr0; omega, HG.hr0.2⟩ HG.hr2 HG.hts).mono ?_
    rintro e w' ⟨hR, hb⟩
    rw [hnl] at hR
    refine ⟨?_, hb⟩
    rcases hR with ⟨h1, h2⟩ | ⟨h1, h2⟩
    · exact h2
    · rw [← hnl] at h1; rw [h1] at htb; cases htb
  have HM0 : Hid (∀ X, Calls Try.prog 113 #[.agg #[.int .i64 now]] X fun e w' => e = .returned (.agg #[.int .i64 1, .int .i64 now, .int .i64 0, .slice none 0 0]) ∧ Below X.heap.size X w') := fun X => breakO now X
  have HE : Hid (q = (0, ⟨1, now, 0, []⟩)) := by show _ = _; rw [hq]
  have hWW : Hid (w.heap.size ≤ W.heap.size) := K0.out.1.1.size
  clear hW HG hq ht hi hl htb
  obtain ⟨n, hn⟩ : ∃ n, l.length = n := ⟨_, rfl⟩
  have HN : Hid (l.length = n) := hn
  obtain ⟨m, hmm⟩ : ∃ m, nl.length = m := ⟨_, rfl⟩
  have HML : Hid (nl.length = m) := hmm
  have HQ : Hid (∀ X va vc, MkNew X W.heap.size (.slice va n vc) l → Calls Try.prog 73 #[.iface 139 (.agg #[.int .i64 t, .slice va n vc]), .agg #[.int .i64 a0, .int .i64 a1, .int .i64 a2, .int .i64 a3, .int .i64 a4], .agg #[.int .i64 now, .bool good]] X fun e w' => e = .returned (.iface 134 (.agg #[.int .i64 now])) ∧ Below X.heap.size X w') := by rw [← hn]; exact HQ0.out
  rw [hn] at HW K0 HA HC ⊢
  clear hn hmm HQ0 hnl
  go_enter Try.func33, Try.ntmps33
  go_wp2_with fail
  rw [← HW.out]
  refine HA.out.mono ?_
  rintro e w1 ⟨rfl, hb1⟩
  have HK1 : Hid (∀ X, Below w1.heap.size w1 X → Below w.heap.size w X ∧ S4 X w.heap.size (.int .i64 0) (.int .i64 t) (.int .i64 0) (.slice a n cap) ∧ S5 X (w.heap.size + 1) (.int .i64 a0) (.int .i64 a1) (.int .i64 a2) (.int .i64 a3) (.int .i64 a4) ∧ C5 X (w.heap.size + 2) (.int .i64 0) (.int .i64 0) (.int .i64 0) (.int .i64 0) (.slice none 0 0)) := fun X hX => by
    have b := hb1.trans (hX.mono hb1.size)
    exact ⟨K0.out.1.1.trans (b.mono K0.out.1.1.size), K0.out.1.2.1.keep b, K0.out.1.2.2.1.keep b, K0.out.1.2.2.2.keep b⟩
  have hup : w.heap.size + 3 ≤ w1.heap.size := by have := hb1.size; rw [K0.out.2] at this; exact this
  have hW1 : W.heap.size ≤ w1.heap.size := hb1.size
  have HC1 : Hid (∀ X, Below w1.heap.size w1 X → Calls Try.prog 64 #[.agg #[.int .i64 0, .int .i64 t, .int .i64 0, .slice a n cap]] X fun e w' => CondR w' X.heap.size t l e ∧ Below X.heap.size X w') := fun X hX => HC.out X (hb1.trans (hX.mono hb1.size))
  clear hb1 K0 HW HA HC
  have HKS : Hid (∀ X, Below w1.heap.size w1 X → X.cell? ⟨w.heap.size, 0, none⟩ = some (.int .i64 0) ∧ X.cell? ⟨w.heap.size, 1, none⟩ = some (.int .i64 t) ∧ X.cell? ⟨w.heap.size, 2, none⟩ = some (.int .i64 0) ∧ X.cell? ⟨w.heap.size, 3, none⟩ = some (.slice a n cap) ∧ X.cell? ⟨w.heap.size + 1, 0, none⟩ = some (.int .i64 a0) ∧ X.cell? ⟨w.heap.size + 1, 1, none⟩ = some (.int .i64 a1) ∧ X.cell? ⟨w.heap.size + 1, 2, none⟩ = some (.int .i64 a2) ∧ X.cell? ⟨w.heap.size + 1, 3, none⟩ = some (.int .i64 a3) ∧ X.cell? ⟨w.heap.size + 1, 4, none⟩ = some (.int .i64 a4)) := fun X hb => ⟨(HK1.out X hb).2.1.c0, (HK1.out X hb).2.1.c1, (HK1.out X hb).2.1.c2, (HK1.out X hb).2.1.c3, (HK1.out X hb).2.2.1.c0, (HK1.out X hb).2.2.1.c1, (HK1.out X hb).2.2.1.c2, (HK1.out X hb).2.2.1.c3, (HK1.out X hb).2.2.1.c4⟩
  have B0 : Hid (Below w1.heap.size w1 w1.drew) := (Below.refl _ _).drew
  go_wp2_with fail
  go_region_held3 (fun X => X.cell? ⟨w.heap.size, 0, none⟩ = some (.int .i64 0) ∧ X.cell? ⟨w.heap.size, 1, none⟩ = some (.int .i64 t) ∧ X.cell? ⟨w.heap.size, 2, none⟩ = some (.int .i64 0) ∧ X.cell? ⟨w.heap.size, 3, none⟩ = some (.slice a n cap) ∧ X.cell? ⟨w.heap.size + 1, 0, none⟩ = some (.int .i64 a0) ∧ X.cell? ⟨w.heap.size + 1, 1, none⟩ = some (.int .i64 a1) ∧ X.cell? ⟨w.heap.size + 1, 2, none⟩ = some (.int .i64 a2) ∧ X.cell? ⟨w.heap.size + 1, 3, none⟩ = some (.int .i64 a3) ∧ X.cell? ⟨w.heap.size + 1, 4, none⟩ = some (.int .i64 a4))
    (first | exact HKS.out _ BB.out | exact HKS.out _ BA.out | exact HKS.out _ B0.out)
    (first
    | (go_at_call 73; refine (HQ.out _ _ _ MA.out).mono ?_; rintro r0 wb ⟨rfl, hbb⟩; have BB : Hid (Below w1.heap.size w1 wb) := BA.out.trans (hbb.mono BA.out.size); clear hbb)
    | (go_at_call 64; refine (HC1.out _ B0.out).mono ?_; rintro r0 wa ⟨⟨va, vc, rfl, ma⟩, hba⟩; rw [HN.out] at ma ⊢; have BA : Hid (Below w1.heap.size w1 wa) := B0.out.trans (hba.mono B0.out.size); have MA : Hid (MkNew wa W.heap.size (.slice va n vc) l) := ma.lower (Nat.le_trans hW1 B0.out.size); clear hba ma))
  all_goals
    have KZ := hid12 (HK1.out _ BB.out)
    clear HK1 HKS B0 BA BB HQ HC1 MA
    go_wp2_with fail
    refine (HM0.out _).mono ?_
    rintro e w4 ⟨rfl, hb4⟩
    have KY : Hid (Below w.heap.size w w4 ∧ C5 w4 (w.heap.size + 2) (.int .i64 0) (.int .i64 0) (.int .i64 0) (.int .i64 0) (.slice none 0 0)) := ⟨KZ.out.1.trans (hb4.mono KZ.out.1.size), KZ.out.2.2.2.keep hb4⟩
    clear KZ hb4 HM0
    obtain ⟨r0, r1, r2, r3, r4, rf, _⟩ := KY.out.2
    go_wp2_with fail
    exact bodyPost_ret (v := .agg #[.int .i64 0, .int .i64 1, .int .i64 now, .int .i64 0, .slice none 0 0]) (by simp [results, Try.results33, go_sem, r0, r1, r2, r3, r4]) rfl ⟨NoteRes.mk HE.out rfl (MkNew.nil _ _ _ _), ((((KY.out.1.setCell (by simp <;> omega) _).setCell (by simp <;> omega) _).setCell (by simp <;> omega) _).setCell (by simp <;> omega) _).setCell (by simp <;> omega) _⟩
set_option maxRecDepth 100000 in
set_option maxHeartbeats 8000000 in
theorem implNote_1 (w : World) (t : Int) (a : Option Addr) (cap : Nat) (a0 a1 a2 a3 a4 now : Int) (good : Bool) (q : Int × Bk) (hq : q = (0, ⟨1, t, 0, []⟩)) (ht : turnC 1 t 0 ([] : List Mk) a0 a1 a2 a3 a4 now = 0) :
    Calls Try.prog 33 #[.agg #[.int .i64 1, .int .i64 t, .int .i64 0, .slice a 0 cap], .agg #[.int .i64 a0, .int .i64 a1, .int .i64 a2, .int .i64 a3, .int .i64 a4], .int .i64 now, .bool good] w fun e w' => NoteRes w' w.heap.size q e ∧ Below w.heap.size w w' := by
  obtain ⟨W, hW⟩ : ∃ W, W = ((w.alloc (.cells #[.int .i64 1, .int .i64 t, .int .i64 0, .slice a 0 cap] 51)).alloc (.cells #[.int .i64 a0, .int .i64 a1, .int .i64 a2, .int .i64 a3, .int .i64 a4] 53)).alloc (.cells #[.int .i64 0, .int .i64 0, .int .i64 0, .int .i64 0, .slice none 0 0] 64) := ⟨_, rfl⟩
  have HW : Hid (W = ((w.alloc (.cells #[.int .i64 1, .int .i64 t, .int .i64 0, .slice a 0 cap] 51)).alloc (.cells #[.int .i64 a0, .int .i64 a1, .int .i64 a2, .int .i64 a3, .int .i64 a4] 53)).alloc (.cells #[.int .i64 0, .int .i64 0, .int .i64 0, .int .i64 0, .slice none 0 0] 64)) := hW
  have K0 : Hid ((Below w.heap.size w W ∧ S4 W w.heap.size (.int .i64 1) (.int .i64 t) (.int .i64 0) (.slice a 0 cap) ∧ S5 W (w.heap.size + 1) (.int .i64 a0) (.int .i64 a1) (.int .i64 a2) (.int .i64 a3) (.int .i64 a4) ∧ C5 W (w.heap.size + 2) (.int .i64 0) (.int .i64 0) (.int .i64 0) (.int .i64 0) (.slice none 0 0)) ∧ W.heap.size = w.heap.size + 3) := by
    have h1 := S4.new w (.int .i64 1) (.int .i64 t) (.int .i64 0) (.slice a 0 cap) 51
    obtain ⟨W1, hW1⟩ : ∃ W1, W1 = w.alloc (.cells #[.int .i64 1, .int .i64 t, .int .i64 0, .slice a 0 cap] 51) := ⟨_, rfl⟩
    rw [← hW1] at h1 hW
    have e1 : W1.heap.size = w.heap.size + 1 := by rw [hW1]; simp
    have b1 : Below w.heap.size w W1 := by rw [hW1]; exact (Below.refl _ _).alloc (Nat.le_refl _) _
    have h2 := S5.new W1 (.int .i64 a0) (.int .i64 a1) (.int .i64 a2) (.int .i64 a3) (.int .i64 a4) 53
    obtain ⟨W2, hW2⟩ : ∃ W2, W2 = W1.alloc (.cells #[.int .i64 a0, .int .i64 a1, .int .i64 a2, .int .i64 a3, .int .i64 a4] 53) := ⟨_, rfl⟩
    rw [← hW2] at h2 hW
    have e2 : W2.heap.size = w.heap.size + 2 := by rw [hW2]; simp [e1]
    have b2 : Below W1.heap.size W1 W2 := by rw [hW2]; exact (Below.refl _ _).alloc (Nat.le_refl _) _
    have b3 : Below W2.heap.size W2 W := by rw [hW]; exact (Below.refl _ _).alloc (Nat.le_refl _) _
    have h3 := C5.new W2 (.int .i64 0) (.int .i64 0) (.int .i64 0) (.int .i64 0) (.slice none 0 0) 64
    rw [← hW] at h3
    rw [e1] at h2
    rw [e2] at h3
    have b13 := b2.trans (b3.mono b2.size)
    exact ⟨⟨b1.trans (b13.mono b1.size), h1.keep b13, h2.keep b3, h3⟩, by rw [hW]; simp [e2]⟩
  have HA : Hid (Calls Try.prog 62 #[.agg #[.int .i64 1, .int .i64 t, .int .i64 0, .slice a 0 cap], .agg #[.int .i64 a0, .int .i64 a1, .int .i64 a2, .int .i64 a3, .int .i64 a4], .int .i64 now] W fun e w' => e = .returned (.int .i64 0) ∧ Below W.heap.size W w') := by
    have := implAsk_any W 1 t 0 a cap ([] : List Mk) a0 a1 a2 a3 a4 now (.inl rfl)
    rw [ht] at this
    exact this
  have HC : Hid (∀ X, Calls Try.prog 64 #[.agg #[.int .i64 1, .int .i64 t, .int .i64 0, .slice a 0 cap]] X fun e w' => e = .returned (.iface 134 (.agg #[.int .i64 t])) ∧ Below X.heap.size X w') := fun X => condO t 0 a 0 cap X
  have HQ : Hid (∀ X, Calls Try.prog 73 #[.iface 134 (.agg #[.int .i64 t]), .agg #[.int .i64 a0, .int .i64 a1, .int .i64 a2, .int .i64 a3, .int .i64 a4], .agg #[.int .i64 now, .bool good]] X fun e w' => e = .returned (.iface 134 (.agg #[.int .i64 t])) ∧ Below X.heap.size X w') := fun X => noteO t a0 a1 a2 a3 a4 now good X
  have HM0 : Hid (∀ X, Calls Try.prog 113 #[.agg #[.int .i64 t]] X fun e w' => e = .returned (.agg #[.int .i64 1, .int .i64 t, .int .i64 0, .slice none 0 0]) ∧ Below X.heap.size X w') := fun X => breakO t X
  have HE : Hid (q = (0, ⟨1, t, 0, []⟩)) := hq
  clear hW hq ht
  go_enter Try.func33, Try.ntmps33
  go_wp2_with fail
  rw [← HW.out]
  refine HA.out.mono ?_
  rintro e w1 ⟨rfl, hb1⟩
  have HK1 : Hid (∀ X, Below w1.heap.size w1 X → Below w.heap.size w X ∧ S4 X w.heap.size (.int .i64 1) (.int .i64 t) (.int .i64 0) (.slice a 0 cap) ∧ S5 X (w.heap.size + 1) (.int .i64 a0) (.int .i64 a1) (.int .i64 a2) (.int .i64 a3) (.int .i64 a4) ∧ C5 X (w.heap.size + 2) (.int .i64 0) (.int .i64 0) (.int .i64 0) (.int .i64 0) (.slice none 0 0)) := fun X hX => by
    have b := hb1.trans (hX.mono hb1.size)
    exact ⟨K0.out.1.1.trans (b.mono K0.out.1.1.size), K0.out.1.2.1.keep b, K0.out.1.2.2.1.keep b, K0.out.1.2.2.2.keep b⟩
  have hup : w.heap.size + 3 ≤ w1.heap.size := by have := hb1.size; rw [K0.out.2] at this; exact this
  clear hb1 K0 HW HA
  have HKS : Hid (∀ X, Below w1.heap.size w1 X → X.cell? ⟨w.heap.size, 0, none⟩ = some (.int .i64 1) ∧ X.cell? ⟨w.heap.size, 1, none⟩ = some (.int .i64 t) ∧ X.cell? ⟨w.heap.size, 2, none⟩ = some (.int .i64 0) ∧ X.cell? ⟨w.heap.size, 3, none⟩ = some (.slice a 0 cap) ∧ X.cell? ⟨w.heap.size + 1, 0, none⟩ = some (.int .i64 a0) ∧ X.cell? ⟨w.heap.size + 1, 1, none⟩ = some (.int .i64 a1) ∧ X.cell? ⟨w.heap.size + 1, 2, none⟩ = some (.int .i64 a2) ∧ X.cell? ⟨w.heap.size + 1, 3, none⟩ = some (.int .i64 a3) ∧ X.cell? ⟨w.heap.size + 1, 4, none⟩ = some (.int .i64 a4)) := fun X hb => ⟨(HK1.out X hb).2.1.c0, (HK1.out X hb).2.1.c1, (HK1.out X hb).2.1.c2, (HK1.out X hb).2.1.c3, (HK1.out X hb).2.2.1.c0, (HK1.out X hb).2.2.1.c1, (HK1.out X hb).2.2.1.c2, (HK1.out X hb).2.2.1.c3, (HK1.out X hb).2.2.1.c4⟩
  have B0 : Hid (Below w1.heap.size w1 w1.drew) := (Below.refl _ _).drew
  go_wp2_with fail
  go_region_held3 (fun X => X.cell? ⟨w.heap.size, 0, none⟩ = some (.int .i64 1) ∧ X.cell? ⟨w.heap.size, 1, none⟩ = some (.int .i64 t) ∧ X.cell? ⟨w.heap.size, 2, none⟩ = some (.int .i64 0) ∧ X.cell? ⟨w.heap.size, 3, none⟩ = some (.slice a 0 cap) ∧ X.cell? ⟨w.heap.size + 1, 0, none⟩ = some (.int .i64 a0) ∧ X.cell? ⟨w.heap.size + 1, 1, none⟩ = some (.int .i64 a1) ∧ X.cell? ⟨w.heap.size + 1, 2, none⟩ = some (.int .i64 a2) ∧ X.cell? ⟨w.heap.size + 1, 3, none⟩ = some (.int .i64 a3) ∧ X.cell? ⟨w.heap.size + 1, 4, none⟩ = some (.int .i64 a4))
    (first | exact HKS.out _ BB.out | exact HKS.out _ BA.out | exact HKS.out _ B0.out)
    (first
    | (go_at_call 73; refine (HQ.out _).mono ?_; rintro r0 wb ⟨rfl, hbb⟩; have BB : Hid (Below w1.heap.size w1 wb) := BA.out.trans (hbb.mono BA.out.size); clear hbb)
    | (go_at_call 64; refine (HC.out _).mono ?_; rintro r0 wa ⟨rfl, hba⟩; have BA : Hid (Below w1.heap.size w1 wa) := B0.out.trans (hba.mono B0.out.size); clear hba))
  all_goals
    have KZ := hid12 (HK1.out _ BB.out)
    clear HK1 HKS B0 BA BB HQ HC
    go_wp2_with fail
    refine (HM0.out _).mono ?_
    rintro e w4 ⟨rfl, hb4⟩
    have KY : Hid (Below w.heap.size w w4 ∧ C5 w4 (w.heap.size + 2) (.int .i64 0) (.int .i64 0) (.int .i64 0) (.int .i64 0) (.slice none 0 0)) := ⟨KZ.out.1.trans (hb4.mono KZ.out.1.size), KZ.out.2.2.2.keep hb4⟩
    clear KZ hb4 HM0
    obtain ⟨r0, r1, r2, r3, r4, rf, _⟩ := KY.out.2
    go_wp2_with fail
    exact bodyPost_ret (v := .agg #[.int .i64 0, .int .i64 1, .int .i64 t, .int .i64 0, .slice none 0 0]) (by simp [results, Try.results33, go_sem, r0, r1, r2, r3, r4]) rfl ⟨NoteRes.mk HE.out rfl (MkNew.nil _ _ _ _), ((((KY.out.1.setCell (by simp <;> omega) _).setCell (by simp <;> omega) _).setCell (by simp <;> omega) _).setCell (by simp <;> omega) _).setCell (by simp <;> omega) _⟩
set_option maxRecDepth 100000 in
set_option maxHeartbeats 8000000 in
theorem implNote_2g (w : World) (t : Int) (o : Int) (a : Option Addr) (cap : Nat) (a0 a1 a2 a3 a4 now : Int) (q : Int × Bk) (hq : q = (0, ⟨0, t, 0, []⟩)) (ht : turnC 2 t o ([] : List Mk) a0 a1 a2 a3 a4 now = 0) :
    Calls Try.prog 33 #[.agg #[.int .i64 2, .int .i64 t, .int .i64 o, .slice a 0 cap], .agg #[.int .i64 a0, .int .i64 a1, .int .i64 a2, .int .i64 a3, .int .i64 a4], .int .i64 now, .bool true] w fun e w' => NoteRes w' w.heap.size q e ∧ Below w.heap.size w w' := by
  obtain ⟨W, hW⟩ : ∃ W, W = ((w.alloc (.cells #[.int .i64 2, .int .i64 t, .int .i64 o, .slice a 0 cap] 51)).alloc (.cells #[.int .i64 a0, .int .i64 a1, .int .i64 a2, .int .i64 a3, .int .i64 a4] 53)).alloc (.cells #[.int .i64 0, .int .i64 0, .int .i64 0, .int .i64 0, .slice none 0 0] 64) := ⟨_, rfl⟩
  have HW : Hid (W = ((w.alloc (.cells #[.int .i64 2, .int .i64 t, .int .i64 o, .slice a 0 cap] 51)).alloc (.cells #[.int .i64 a0, .int .i64 a1, .int .i64 a2, .int .i64 a3, .int .i64 a4] 53)).alloc (.cells #[.int .i64 0, .int .i64 0, .int .i64 0, .int .i64 0, .slice none 0 0] 64)) := hW
  have K0 : Hid ((Below w.heap.size w W ∧ S4 W w.heap.size (.int .i64 2) (.int .i64 t) (.int .i64 o) (.slice a 0 cap) ∧ S5 W (w.heap.size + 1) (.int .i64 a0) (.int .i64 a1) (.int .i64 a2) (.int .i64 a3) (.int .i64 a4) ∧ C5 W (w.heap.size + 2) (.int .i64 0) (.int .i64 0) (.int .i64 0) (.int .i64 0) (.slice none 0 0)) ∧ W.heap.size = w.heap.size + 3) := by
    have h1 := S4.new w (.int .i64 2) (.int .i64 t) (.int .i64 o) (.slice a 0 cap) 51
    obtain ⟨W1, hW1⟩ : ∃ W1, W1 = w.alloc (.cells #[.int .i64 2, .int .i64 t, .int .i64 o, .slice a 0 cap] 51) := ⟨_, rfl⟩
    rw [← hW1] at h1 hW
    have e1 : W1.heap.size = w.heap.size + 1 := by rw [hW1]; simp
    have b1 : Below w.heap.size w W1 := by rw [hW1]; exact (Below.refl _ _).alloc (Nat.le_refl _) _
    have h2 := S5.new W1 (.int .i64 a0) (.int .i64 a1) (.int .i64 a2) (.int .i64 a3) (.int .i64 a4) 53
    obtain ⟨W2, hW2⟩ : ∃ W2, W2 = W1.alloc (.cells #[.int .i64 a0, .int .i64 a1, .int .i64 a2, .int .i64 a3, .int .i64 a4] 53) := ⟨_, rfl⟩
    rw [← hW2] at h2 hW
    have e2 : W2.heap.size = w.heap.size + 2 := by rw [hW2]; simp [e1]
    have b2 : Below W1.heap.size W1 W2 := by rw [hW2]; exact (Below.refl _ _).alloc (Nat.le_refl _) _
    have b3 : Below W2.heap.size W2 W := by rw [hW]; exact (Below.refl _ _).alloc (Nat.le_refl _) _
    have h3 := C5.new W2 (.int .i64 0) (.int .i64 0) (.int .i64 0) (.int .i64 0) (.slice none 0 0) 64
    rw [← hW] at h3
    rw [e1] at h2
    rw [e2] at h3
    have b13 := b2.trans (b3.mono b2.size)
    exact ⟨⟨b1.trans (b13.mono b1.size), h1.keep b13, h2.keep b3, h3⟩, by rw [hW]; simp [e2]⟩
  have HA : Hid (Calls Try.prog 62 #[.agg #[.int .i64 2, .int .i64 t, .int .i64 o, .slice a 0 cap], .agg #[.int .i64 a0, .int .i64 a1, .int .i64 a2, .int .i64 a3, .int .i64 a4], .int .i64 now] W fun e w' => e = .returned (.int .i64 0) ∧ Below W.heap.size W w') := by
    have := implAsk_any W 2 t o a cap ([] : List Mk) a0 a1 a2 a3 a4 now (.inl rfl)
    rw [ht] at this
    exact this
  have HC : Hid (∀ X, Calls Try.prog 64 #[.agg #[.int .i64 2, .int .i64 t, .int .i64 o, .slice a 0 cap]] X fun e w' => e = .returned (.iface 136 (.agg #[.int .i64 t, .int .i64 o])) ∧ Below X.heap.size X w') := fun X => condH t o a 0 cap X
  have HQ : Hid (∀ X, Calls Try.prog 73 #[.iface 136 (.agg #[.int .i64 t, .int .i64 o]), .agg #[.int .i64 a0, .int .i64 a1, .int .i64 a2, .int .i64 a3, .int .i64 a4], .agg #[.int .i64 now, .bool true]] X fun e w' => e = .returned (.iface 139 (.agg #[.int .i64 t, .slice none 0 0])) ∧ Below X.heap.size X w') := fun X => noteH_good t o a0 a1 a2 a3 a4 now X
  have HM0 : Hid (∀ X, Calls Try.prog 115 #[.agg #[.int .i64 t, .slice none 0 0]] X fun e w' => e = .returned (.agg #[.int .i64 0, .int .i64 t, .int .i64 0, .slice none 0 0]) ∧ Below X.heap.size X w') := fun X => breakC t none 0 0 X
  have HE : Hid (q = (0, ⟨0, t, 0, []⟩)) := hq
  clear hW hq ht
  go_enter Try.func33, Try.ntmps33
  go_wp2_with fail
  rw [← HW.out]
  refine HA.out.mono ?_
  rintro e w1 ⟨rfl, hb1⟩
  have HK1 : Hid (∀ X, Below w1.heap.size w1 X → Below w.heap.size w X ∧ S4 X w.heap.size (.int .i64 2) (.int .i64 t) (.int .i64 o) (.slice a 0 cap) ∧ S5 X (w.heap.size + 1) (.int .i64 a0) (.int .i64 a1) (.int .i64 a2) (.int .i64 a3) (.int .i64 a4) ∧ C5 X (w.heap.size + 2) (.int .i64 0) (.int .i64 0) (.int .i64 0) (.int .i64 0) (.slice none 0 0)) := fun X hX => by
    have b := hb1.trans (hX.mono hb1.size)
    exact ⟨K0.out.1.1.trans (b.mono K0.out.1.1.size), K0.out.1.2.1.keep b, K0.out.1.2.2.1.keep b, K0.out.1.2.2.2.keep b⟩
  have hup : w.heap.size + 3 ≤ w1.heap.size := by have := hb1.size; rw [K0.out.2] at this; exact this
  clear hb1 K0 HW HA
  have HKS : Hid (∀ X, Below w1.heap.size w1 X → X.cell? ⟨w.heap.size, 0, none⟩ = some (.int .i64 2) ∧ X.cell? ⟨w.heap.size, 1, none⟩ = some (.int .i64 t) ∧ X.cell? ⟨w.heap.size, 2, none⟩ = some (.int .i64 o) ∧ X.cell? ⟨w.heap.size, 3, none⟩ = some (.slice a 0 cap) ∧ X.cell? ⟨w.heap.size + 1, 0, none⟩ = some (.int .i64 a0) ∧ X.cell? ⟨w.heap.size + 1, 1, none⟩ = some (.int .i64 a1) ∧ X.cell? ⟨w.heap.size + 1, 2, none⟩ = some (.int .i64 a2) ∧ X.cell? ⟨w.heap.size + 1, 3, none⟩ = some (.int .i64 a3) ∧ X.cell? ⟨w.heap.size + 1, 4, none⟩ = some (.int .i64 a4)) := fun X hb => ⟨(HK1.out X hb).2.1.c0, (HK1.out X hb).2.1.c1, (HK1.out X hb).2.1.c2, (HK1.out X hb).2.1.c3, (HK1.out X hb).2.2.1.c0, (HK1.out X hb).2.2.1.c1, (HK1.out X hb).2.2.1.c2, (HK1.out X hb).2.2.1.c3, (HK1.out X hb).2.2.1.c4⟩
  have B0 : Hid (Below w1.heap.size w1 w1.drew) := (Below.refl _ _).drew
  go_wp2_with fail
  go_region_held3 (fun X => X.cell? ⟨w.heap.size, 0, none⟩ = some (.int .i64 2) ∧ X.cell? ⟨w.heap.size, 1, none⟩ = some (.int .i64 t) ∧ X.cell? ⟨w.heap.size, 2, none⟩ = some (.int .i64 o) ∧ X.cell? ⟨w.heap.size, 3, none⟩ = some (.slice a 0 cap) ∧ X.cell? ⟨w.heap.size + 1, 0, none⟩ = some (.int .i64 a0) ∧ X.cell? ⟨w.heap.size + 1, 1, none⟩ = some (.int .i64 a1) ∧ X.cell? ⟨w.heap.size + 1, 2, none⟩ = some (.int .i64 a2) ∧ X.cell? ⟨w.heap.size + 1, 3, none⟩ = some (.int .i64 a3) ∧ X.cell? ⟨w.heap.size + 1, 4, none⟩ = some (.int .i64 a4))
    (first | exact HKS.out _ BB.out | exact HKS.out _ BA.out | exact HKS.out _ B0.out)
    (first
    | (go_at_call 73; refine (HQ.out _).mono ?_; rintro r0 wb ⟨rfl, hbb⟩; have BB : Hid (Below w1.heap.size w1 wb) := BA.out.trans (hbb.mono BA.out.size); clear hbb)
    | (go_at_call 64; refine (HC.out _).mono ?_; rintro r0 wa ⟨rfl, hba⟩; have BA : Hid (Below w1.heap.size w1 wa) := B0.out.trans (hba.mono B0.out.size); clear hba))
  all_goals
    have KZ := hid12 (HK1.out _ BB.out)
    clear HK1 HKS B0 BA BB HQ HC
    go_wp2_with fail
    refine (HM0.out _).mono ?_
    rintro e w4 ⟨rfl, hb4⟩
    have KY : Hid (Below w.heap.size w w4 ∧ C5 w4 (w.heap.size + 2) (.int .i64 0) (.int .i64 0) (.int .i64 0) (.int .i64 0) (.slice none 0 0)) := ⟨KZ.out.1.trans (hb4.mono KZ.out.1.size), KZ.out.2.2.2.keep hb4⟩
    clear KZ hb4 HM0
    obtain ⟨r0, r1, r2, r3, r4, rf, _⟩ := KY.out.2
    go_wp2_with fail
    exact bodyPost_ret (v := .agg #[.int .i64 0, .int .i64 0, .int .i64 t, .int .i64 0, .slice none 0 0]) (by simp [results, Try.results33, go_sem, r0, r1, r2, r3, r4]) rfl ⟨NoteRes.mk HE.out rfl (MkNew.nil _ _ _ _), ((((KY.out.1.setCell (by simp <;> omega) _).setCell (by simp <;> omega) _).setCell (by simp <;> omega) _).setCell (by simp <;> omega) _).setCell (by simp <;> omega) _⟩
set_option maxRecDepth 100000 in
set_option maxHeartbeats 8000000 in
theorem implNote_2b (w : World) (t : Int) (o : Int) (a : Option Addr) (cap : Nat) (a0 a1 a2 a3 a4 now : Int) (q : Int × Bk) (hq : q = (0, ⟨1, now, 0, []⟩)) (ht : turnC 2 t o ([] : List Mk) a0 a1 a2 a3 a4 now = 0) :
    Calls Try.prog 33 #[.agg #[.int .i64 2, .int .i64 t, .int .i64 o, .slice a 0 cap], .agg #[.int .i64 a0, .int .i64 a1, .int .i64 a2, .int .i64 a3, .int .i64 a4], .int .i64 now, .bool false] w fun e w' => NoteRes w' w.heap.size q e ∧ Below w.heap.size w w' := by
  obtain ⟨W, hW⟩ : ∃ W, W = ((w.alloc (.cells #[.int .i64 2, .int .i64 t, .int .i64 o, .slice a 0 cap] 51)).alloc (.cells #[.int .i64 a0, .int .i64 a1, .int .i64 a2, .int .i64 a3, .int .i64 a4] 53)).alloc (.cells #[.int .i64 0, .int .i64 0, .int .i64 0, .int .i64 0, .slice none 0 0] 64) := ⟨_, rfl⟩
  have HW : Hid (W = ((w.alloc (.cells #[.int .i64 2, .int .i64 t, .int .i64 o, .slice a 0 cap] 51)).alloc (.cells #[.int .i64 a0, .int .i64 a1, .int .i64 a2, .int .i64 a3, .int .i64 a4] 53)).alloc (.cells #[.int .i64 0, .int .i64 0, .int .i64 0, .int .i64 0, .slice none 0 0] 64)) := hW
  have K0 : Hid ((Below w.heap.size w W ∧ S4 W w.heap.size (.int .i64 2) (.int .i64 t) (.int .i64 o) (.slice a 0 cap) ∧ S5 W (w.heap.size + 1) (.int .i64 a0) (.int .i64 a1) (.int .i64 a2) (.int .i64 a3) (.int .i64 a4) ∧ C5 W (w.heap.size + 2) (.int .i64 0) (.int .i64 0) (.int .i64 0) (.int .i64 0) (.slice none 0 0)) ∧ W.heap.size = w.heap.size + 3) := by
    have h1 := S4.new w (.int .i64 2) (.int .i64 t) (.int .i64 o) (.slice a 0 cap) 51
    obtain ⟨W1, hW1⟩ : ∃ W1, W1 = w.alloc (.cells #[.int .i64 2, .int .i64 t, .int .i64 o, .slice a 0 cap] 51) := ⟨_, rfl⟩
    rw [← hW1] at h1 hW
    have e1 : W1.heap.size = w.heap.size + 1 := by rw [hW1]; simp
    have b1 : Below w.heap.size w W1 := by rw [hW1]; exact (Below.refl _ _).alloc (Nat.le_refl _) _
    have h2 := S5.new W1 (.int .i64 a0) (.int .i64 a1) (.int .i64 a2) (.int .i64 a3) (.int .i64 a4) 53
    obtain ⟨W2, hW2⟩ : ∃ W2, W2 = W1.alloc (.cells #[.int .i64 a0, .int .i64 a1, .int .i64 a2, .int .i64 a3, .int .i64 a4] 53) := ⟨_, rfl⟩
    rw [← hW2] at h2 hW
    have e2 : W2.heap.size = w.heap.size + 2 := by rw [hW2]; simp [e1]
    have b2 : Below W1.heap.size W1 W2 := by rw [hW2]; exact (Below.refl _ _).alloc (Nat.le_refl _) _
    have b3 : Below W2.heap.size W2 W := by rw [hW]; exact (Below.refl _ _).alloc (Nat.le_refl _) _
    have h3 := C5.new W2 (.int .i64 0) (.int .i64 0) (.int .i64 0) (.int .i64 0) (.slice none 0 0) 64
    rw [← hW] at h3
    rw [e1] at h2
    rw [e2] at h3
    have b13 := b2.trans (b3.mono b2.size)
    exact ⟨⟨b1.trans (b13.mono b1.size), h1.keep b13, h2.keep b3, h3⟩, by rw [hW]; simp [e2]⟩
  have HA : Hid (Calls Try.prog 62 #[.agg #[.int .i64 2, .int .i64 t, .int .i64 o, .slice a 0 cap], .agg #[.int .i64 a0, .int .i64 a1, .int .i64 a2, .int .i64 a3, .int .i64 a4], .int .i64 now] W fun e w' => e = .returned (.int .i64 0) ∧ Below W.heap.size W w') := by
    have := implAsk_any W 2 t o a cap ([] : List Mk) a0 a1 a2 a3 a4 now (.inl rfl)
    rw [ht] at this
    exact this
  have HC : Hid (∀ X, Calls Try.prog 64 #[.agg #[.int .i64 2, .int .i64 t, .int .i64 o, .slice a 0 cap]] X fun e w' => e = .returned (.iface 136 (.agg #[.int .i64 t, .int .i64 o])) ∧ Below X.heap.size X w') := fun X => condH t o a 0 cap X
  have HQ : Hid (∀ X, Calls Try.prog 73 #[.iface 136 (.agg #[.int .i64 t, .int .i64 o]), .agg #[.int .i64 a0, .int .i64 a1, .int .i64 a2, .int .i64 a3, .int .i64 a4], .agg #[.int .i64 now, .bool false]] X fun e w' => e = .returned (.iface 134 (.agg #[.int .i64 now])) ∧ Below X.heap.size X w') := fun X => noteH_bad t o a0 a1 a2 a3 a4 now X
  have HM0 : Hid (∀ X, Calls Try.prog 113 #[.agg #[.int .i64 now]] X fun e w' => e = .returned (.agg #[.int .i64 1, .int .i64 now, .int .i64 0, .slice none 0 0]) ∧ Below X.heap.size X w') := fun X => breakO now X
  have HE : Hid (q = (0, ⟨1, now, 0, []⟩)) := hq
  clear hW hq ht
  go_enter Try.func33, Try.ntmps33
  go_wp2_with fail
  rw [← HW.out]
  refine HA.out.mono ?_
  rintro e w1 ⟨rfl, hb1⟩
  have HK1 : Hid (∀ X, Below w1.heap.size w1 X → Below w.heap.size w X ∧ S4 X w.heap.size (.int .i64 2) (.int .i64 t) (.int .i64 o) (.slice a 0 cap) ∧ S5 X (w.heap.size + 1) (.int .i64 a0) (.int .i64 a1) (.int .i64 a2) (.int .i64 a3) (.int .i64 a4) ∧ C5 X (w.heap.size + 2) (.int .i64 0) (.int .i64 0) (.int .i64 0) (.int .i64 0) (.slice none 0 0)) := fun X hX => by
    have b := hb1.trans (hX.mono hb1.size)
    exact ⟨K0.out.1.1.trans (b.mono K0.out.1.1.size), K0.out.1.2.1.keep b, K0.out.1.2.2.1.keep b, K0.out.1.2.2.2.keep b⟩
  have hup : w.heap.size + 3 ≤ w1.heap.size := by have := hb1.size; rw [K0.out.2] at this; exact this
  clear hb1 K0 HW HA
  have HKS : Hid (∀ X, Below w1.heap.size w1 X → X.cell? ⟨w.heap.size, 0, none⟩ = some (.int .i64 2) ∧ X.cell? ⟨w.heap.size, 1, none⟩ = some (.int .i64 t) ∧ X.cell? ⟨w.heap.size, 2, none⟩ = some (.int .i64 o) ∧ X.cell? ⟨w.heap.size, 3, none⟩ = some (.slice a 0 cap) ∧ X.cell? ⟨w.heap.size + 1, 0, none⟩ = some (.int .i64 a0) ∧ X.cell? ⟨w.heap.size + 1, 1, none⟩ = some (.int .i64 a1) ∧ X.cell? ⟨w.heap.size + 1, 2, none⟩ = some (.int .i64 a2) ∧ X.cell? ⟨w.heap.size + 1, 3, none⟩ = some (.int .i64 a3) ∧ X.cell? ⟨w.heap.size + 1, 4, none⟩ = some (.int .i64 a4)) := fun X hb => ⟨(HK1.out X hb).2.1.c0, (HK1.out X hb).2.1.c1, (HK1.out X hb).2.1.c2, (HK1.out X hb).2.1.c3, (HK1.out X hb).2.2.1.c0, (HK1.out X hb).2.2.1.c1, (HK1.out X hb).2.2.1.c2, (HK1.out X hb).2.2.1.c3, (HK1.out X hb).2.2.1.c4⟩
  have B0 : Hid (Below w1.heap.size w1 w1.drew) := (Below.refl _ _).drew
  go_wp2_with fail
  go_region_held3 (fun X => X.cell? ⟨w.heap.size, 0, none⟩ = some (.int .i64 2) ∧ X.cell? ⟨w.heap.size, 1, none⟩ = some (.int .i64 t) ∧ X.cell? ⟨w.heap.size, 2, none⟩ = some (.int .i64 o) ∧ X.cell? ⟨w.heap.size, 3, none⟩ = some (.slice a 0 cap) ∧ X.cell? ⟨w.heap.size + 1, 0, none⟩ = some (.int .i64 a0) ∧ X.cell? ⟨w.heap.size + 1, 1, none⟩ = some (.int .i64 a1) ∧ X.cell? ⟨w.heap.size + 1, 2, none⟩ = some (.int .i64 a2) ∧ X.cell? ⟨w.heap.size + 1, 3, none⟩ = some (.int .i64 a3) ∧ X.cell? ⟨w.heap.size + 1, 4, none⟩ = some (.int .i64 a4))
    (first | exact HKS.out _ BB.out | exact HKS.out _ BA.out | exact HKS.out _ B0.out)
    (first
    | (go_at_call 73; refine (HQ.out _).mono ?_; rintro r0 wb ⟨rfl, hbb⟩; have BB : Hid (Below w1.heap.size w1 wb) := BA.out.trans (hbb.mono BA.out.size); clear hbb)
    | (go_at_call 64; refine (HC.out _).mono ?_; rintro r0 wa ⟨rfl, hba⟩; have BA : Hid (Below w1.heap.size w1 wa) := B0.out.trans (hba.mono B0.out.size); clear hba))
  all_goals
    have KZ := hid12 (HK1.out _ BB.out)
    clear HK1 HKS B0 BA BB HQ HC
    go_wp2_with fail
    refine (HM0.out _).mono ?_
    rintro e w4 ⟨rfl, hb4⟩
    have KY : Hid (Below w.heap.size w w4 ∧ C5 w4 (w.heap.size + 2) (.int .i64 0) (.int .i64 0) (.int .i64 0) (.int .i64 0) (.slice none 0 0)) := ⟨KZ.out.1.trans (hb4.mono KZ.out.1.size), KZ.out.2.2.2.keep hb4⟩
    clear KZ hb4 HM0
    obtain ⟨r0, r1, r2, r3, r4, rf, _⟩ := KY.out.2
    go_wp2_with fail
    exact bodyPost_ret (v := .agg #[.int .i64 0, .int .i64 1, .int .i64 now, .int .i64 0, .slice none 0 0]) (by simp [results, Try.results33, go_sem, r0, r1, r2, r3, r4]) rfl ⟨NoteRes.mk HE.out rfl (MkNew.nil _ _ _ _), ((((KY.out.1.setCell (by simp <;> omega) _).setCell (by simp <;> omega) _).setCell (by simp <;> omega) _).setCell (by simp <;> omega) _).setCell (by simp <;> omega) _⟩
theorem implNote_any (w : World) (s t o : Int) (a : Option Addr) (cap : Nat) (l : List Mk) (a0 a1 a2 a3 a4 now : Int) (good : Bool) (hl : l.length ≤ 1048576) (hi : MkIn w a l) :
    Calls Try.prog 33 #[.agg #[.int .i64 s, .int .i64 t, .int .i64 o, .slice a l.length cap], .agg #[.int .i64 a0, .int .i64 a1, .int .i64 a2, .int .i64 a3, .int .i64 a4], .int .i64 now, .bool good] w fun e w' => NoteRes w' w.heap.size (noteR s t o l a0 a1 a2 a3 a4 now good) e ∧ Below w.heap.size w w' := by
  by_cases ht : turnC s t o l a0 a1 a2 a3 a4 now = 0
  rotate_left
  · exact implNote_bad w s t o a cap l a0 a1 a2 a3 a4 now good _ (noteR_bad ht) hi ht
  have g := good_of ht
  have hr := noteR_ok (good := good) ht
  rcases g.hs with rfl | rfl | rfl
  · have ho := g.ho0 (by decide)
    subst ho
    cases htb : tooB (noteL l a0 now good) a1 a2
    · exact implNote_0g w t a cap l a0 a1 a2 a3 a4 now good _ (by rw [hr]; simp [noteV, htb]) hl hi ht htb
    · exact implNote_0b w t a cap l a0 a1 a2 a3 a4 now good _ (by rw [hr]; simp [noteV, htb]) hl hi ht htb
  · have ho := g.ho0 (by decide)
    subst ho
    have e := g.hl0 (by decide)
    subst e
    exact implNote_1 w t a cap a0 a1 a2 a3 a4 now good _ (by rw [hr]; simp [noteV]) ht
  · have e := g.hl0 (by decide)
    subst e
    cases good
    · exact implNote_2b w t o a cap a0 a1 a2 a3 a4 now _ (by rw [hr]; simp [noteV]) ht
    · exact implNote_2g w t o a cap a0 a1 a2 a3 a4 now _ (by rw [hr]; simp [noteV]) ht
end Go.Proofs.Ytmgidcigihpbeaa
/-
  The law of outcomes, out of contracts.
-/
namespace Go.Proofs.Ytmgidcigihpbeaa
open Go.ChangeShapes Go.WideShapes Go.ChangeAt Go.RowKit Go.Sort
namespace outcomes
theorem bfield0 (c s t o : Int) (a : Option Addr) (n k : Nat) (w : World) : (Instr.field 64 (.agg #[.int .i64 c, .int .i64 s, .int .i64 t, .int .i64 o, .slice a n k]) 0).run Try.prog w = .ok (.int .i64 c) w := by kernel_rfl
theorem bfield1 (c s t o : Int) (a : Option Addr) (n k : Nat) (w : World) : (Instr.field 64 (.agg #[.int .i64 c, .int .i64 s, .int .i64 t, .int .i64 o, .slice a n k]) 1).run Try.prog w = .ok (.agg #[.int .i64 s, .int .i64 t, .int .i64 o, .slice a n k]) w := by kernel_rfl
theorem ifield1 (c v : Int) (w : World) : (Instr.field 67 (.agg #[.int .i64 c, .int .i64 v]) 1).run Try.prog w = .ok (.int .i64 v) w := by kernel_rfl
set_option maxRecDepth 100000 in
set_option maxHeartbeats 32000000 in
theorem fnOutcomes_walk (w : World) (a : Option Addr) (len cap : Nat) (hc : CodeRow w w.heap.size a len) :
    Calls Try.prog 6 #[.slice a len cap] w fun e w' => e = .returned (.bool true) ∧ Below w.heap.size w w' := by
  have HC : Hid (CodeRow w w.heap.size a len) := hc
  clear hc
  by_cases hbig : (1048576 : Int) < len
  · go_enter Try.func6, Try.ntmps6
    go_wp2
    go_ret
    exact ⟨rfl, Below.refl _ _⟩
  have hl2 : len ≤ 1048576 := by omega
  go_enter Try.func6, Try.ntmps6
  go_wp2_with (go_at_call 7; go_in)
  refine (drawNote_any w a len cap w.heap.size rfl HC.out hl2).mono ?_
  rintro r w1 ⟨s, t, o, now, a0, a1, a2, a3, a4, va, n, vc, l, g, rfl, hln, hn61, hnow, hf⟩
  obtain ⟨v1, hv1⟩ : ∃ X, X = (w1.alloc (.cells #[.int .i64 s, .int .i64 t, .int .i64 o, .slice va n vc] 51)).alloc (.cells #[.int .i64 a0, .int .i64 a1, .int .i64 a2, .int .i64 a3, .int .i64 a4] 53) := ⟨_, rfl⟩
  obtain ⟨M3, hM3⟩ : ∃ M, w1.heap.size = M := ⟨_, rfl⟩
  have F1 : Hid (∀ X, Below v1.heap.size v1 X → Below w.heap.size w X ∧ SBR X M3 (M3 + 1) s t o va n vc a0 a1 a2 a3 a4 ∧ MkIn X va l) := by
    have bA : Below w1.heap.size w1 (w1.alloc (.cells #[.int .i64 s, .int .i64 t, .int .i64 o, .slice va n vc] 51)) := (Below.refl _ _).alloc (Nat.le_refl _) _
    have bB : Below (w1.alloc (.cells #[.int .i64 s, .int .i64 t, .int .i64 o, .slice va n vc] 51)).heap.size (w1.alloc (.cells #[.int .i64 s, .int .i64 t, .int .i64 o, .slice va n vc] 51)) v1 := by rw [hv1]; exact (Below.refl _ _).alloc (Nat.le_refl _) _
    have sA := S4.new w1 (.int .i64 s) (.int .i64 t) (.int .i64 o) (.slice va n vc) 51
    have sB := S5.new (w1.alloc (.cells #[.int .i64 s, .int .i64 t, .int .i64 o, .slice va n vc] 51)) (.int .i64 a0) (.int .i64 a1) (.int .i64 a2) (.int .i64 a3) (.int .i64 a4) 53
    rw [show (w1.alloc (.cells #[.int .i64 s, .int .i64 t, .int .i64 o, .slice va n vc] 51)).heap.size = M3 + 1 by rw [← hM3]; simp, ← hv1] at sB
    rw [hM3] at sA
    have sA2 := sA.keep bB
    intro X hX
    have b12 := bA.trans (bB.mono bA.size)
    exact ⟨hf.lo.trans ((b12.trans (hX.mono b12.size)).mono hf.lo.size), (show SBR v1 M3 (M3 + 1) s t o va n vc a0 a1 a2 a3 a4 from ⟨sA2.c0, sA2.c1, sA2.c2, sA2.c3, sB.c0, sB.c1, sB.c2, sB.c3, sB.c4⟩).keep hX, (hf.in.keep b12).keep hX⟩
  have HV1S : Hid (M3 + 2 ≤ v1.heap.size) := by show _ ≤ _; rw [hv1, ← hM3]; simp
  have HLN : Hid (l.length = n) := hln
  have HV1 := rulQ hv1
  clear hf HC hv1 hln
  obtain ⟨q, hq⟩ : ∃ q, noteR s t o l a0 a1 a2 a3 a4 now g = q := ⟨_, rfl⟩
  have HI : Hid (∀ X, Below v1.heap.size v1 X → Calls Try.prog 33 #[.agg #[.int .i64 s, .int .i64 t, .int .i64 o, .slice va n vc], .agg #[.int .i64 a0, .int .i64 a1, .int .i64 a2, .int .i64 a3, .int .i64 a4], .int .i64 now, .bool g] X fun e w' => NoteRes w' X.heap.size q e ∧ Below X.heap.size X w') := fun X hX => by
    have z := implNote_any X s t o va vc l a0 a1 a2 a3 a4 now g (by have := HLN.out; omega) (F1.out X hX).2.2
    rw [HLN.out, hq] at z
    exact z
  have HSP : Hid (∀ X, Below v1.heap.size v1 X → Calls Try.prog 34 #[.agg #[.int .i64 s, .int .i64 t, .int .i64 o, .slice va n vc], .agg #[.int .i64 a0, .int .i64 a1, .int .i64 a2, .int .i64 a3, .int .i64 a4], .int .i64 now, .bool g] X fun e w' => NoteRes w' X.heap.size q e ∧ Below X.heap.size X w') := fun X hX => by
    have z := specNote_any X s t o va vc l a0 a1 a2 a3 a4 now g (by have := HLN.out; omega) (F1.out X hX).2.2
    rw [HLN.out, hq] at z
    exact z
  have HBI : Hid (∀ X, Below v1.heap.size v1 X → Calls Try.prog 35 #[.agg #[.int .i64 s, .int .i64 t, .int .i64 o, .slice va n vc]] X fun e w' => e = .returned (.agg #[.int .i64 (brkC s t o l), .int .i64 (badA s t o l)]) ∧ Below X.heap.size X w') := fun X hX => by
    have z := implBadIn_any s t o va vc l (by have := HLN.out; omega) X (F1.out X hX).2.2
    rw [HLN.out] at z
    exact z
  have HBS : Hid (∀ X, Below v1.heap.size v1 X → Calls Try.prog 36 #[.agg #[.int .i64 s, .int .i64 t, .int .i64 o, .slice va n vc]] X fun e w' => e = .returned (.agg #[.int .i64 (brkC s t o l), .int .i64 (badA s t o l)]) ∧ Below X.heap.size X w') := fun X hX => by
    have z := specBadIn_any s t o va vc l (by have := HLN.out; omega) X (F1.out X hX).2.2
    rw [HLN.out] at z
    exact z
  have HQ : Hid (q = noteR s t o l a0 a1 a2 a3 a4 now g) := hq.symm
  obtain ⟨qc, ⟨qs, qt, qo, ql⟩⟩ := q
  clear hq
  generalize hbk : brkC s t o l = bk at *
  generalize hbv : badA s t o l = bv at *
  clear hbk hbv
  go_upto_region 4 with fail
  try simp only [hM3]
  rw [← HV1.out]
  clear HV1 hM3
  obtain ⟨c0, c1, c2, c3, r0, r1, r2, r3, r4⟩ := (F1.out _ (Below.refl _ _)).2.1
  go_wp2_with fail
  refine (HI.out _ (Below.refl _ _)).mono ?_
  rintro r w2 ⟨⟨qa, qk, rfl, hmn⟩, hb2⟩
  clear c0 c1 c2 c3 r0 r1 r2 r3 r4 HI
  simp only at hmn
  obtain ⟨qn, hqn⟩ : ∃ x, ql.length = x := ⟨_, rfl⟩
  obtain ⟨v2, hv2⟩ : ∃ X, X = w2.alloc (.cells #[.int .i64 qc, .int .i64 qs, .int .i64 qt, .int .i64 qo, .slice qa qn qk] 64) := ⟨_, rfl⟩
  obtain ⟨M6, hM6⟩ : ∃ M, w2.heap.size = M := ⟨_, rfl⟩
  have F2 : Hid (∀ X, Below v2.heap.size v2 X → Below v1.heap.size v1 X ∧ C5 X M6 (.int .i64 qc) (.int .i64 qs) (.int .i64 qt) (.int .i64 qo) (.slice qa qn qk) ∧ MkIn X qa ql) := by
    have al : Below w2.heap.size w2 v2 := by rw [hv2]; exact (Below.refl _ _).alloc (Nat.le_refl _) _
    have c := C5.new w2 (.int .i64 qc) (.int .i64 qs) (.int .i64 qt) (.int .i64 qo) (.slice qa qn qk) 64
    rw [← hv2, hM6] at c
    obtain ⟨x1, x2, x3, x4⟩ := hmn.in
    simp only [Value.slice.injEq] at x3
    intro X hX
    have b := hb2.trans (al.mono hb2.size)
    exact ⟨b.trans (hX.mono b.size), c.keep hX, by rw [x3.1]; exact (x4.keep al).keep hX⟩
  have HQN : Hid (ql.length = qn) := hqn
  have HV2 := rulQ hv2
  have HM6 : Hid (v2.heap.size = M6 + 1) := by show _ = _; rw [hv2, ← hM6]; simp
  clear hb2 hmn hv2
  have HSP2 : Hid (∀ X, Below v2.heap.size v2 X → Calls Try.prog 34 #[.agg #[.int .i64 s, .int .i64 t, .int .i64 o, .slice va n vc], .agg #[.int .i64 a0, .int .i64 a1, .int .i64 a2, .int .i64 a3, .int .i64 a4], .int .i64 now, .bool g] X fun e w' => (∃ xa xk, e = .returned (.agg #[.int .i64 qc, .int .i64 qs, .int .i64 qt, .int .i64 qo, .slice xa qn xk]) ∧ MkIn w' xa ql) ∧ Below v2.heap.size v2 w') := fun X hX => (HSP.out X (F2.out X hX).1).mono fun _ _ ⟨⟨xa, xk, h1, h3⟩, h2⟩ => ⟨⟨xa, xk, by rw [h1]; simp only [HQN.out], by obtain ⟨x1, x2, x3, x4⟩ := h3.in; simp only [Value.slice.injEq] at x3; rw [x3.1]; exact x4⟩, hX.trans (h2.mono hX.size)⟩
  have HBI2 : Hid (∀ X, Below v2.heap.size v2 X → Calls Try.prog 35 #[.agg #[.int .i64 s, .int .i64 t, .int .i64 o, .slice va n vc]] X fun e w' => e = .returned (.agg #[.int .i64 bk, .int .i64 bv]) ∧ Below v2.heap.size v2 w') := fun X hX => (HBI.out X (F2.out X hX).1).mono fun _ _ ⟨h1, h2⟩ => ⟨h1, hX.trans (h2.mono hX.size)⟩
  have HBS2 : Hid (∀ X, Below v2.heap.size v2 X → Calls Try.prog 36 #[.agg #[.int .i64 s, .int .i64 t, .int .i64 o, .slice va n vc]] X fun e w' => e = .returned (.agg #[.int .i64 bk, .int .i64 bv]) ∧ Below v2.heap.size v2 w') := fun X hX => (HBS.out X (F2.out X hX).1).mono fun _ _ ⟨h1, h2⟩ => ⟨h1, hX.trans (h2.mono hX.size)⟩
  clear HSP HBI HBS
  go_upto_region 5 with fail
  try simp only [hM6]
  try simp only [hqn]
  rw [← HV2.out]
  clear HV2 hM6 hqn
  have HKS : Hid (∀ X, Below v2.heap.size v2 X → X.cell? ⟨M3, 0, none⟩ = some (.int .i64 s) ∧ X.cell? ⟨M3, 1, none⟩ = some (.int .i64 t) ∧ X.cell? ⟨M3, 2, none⟩ = some (.int .i64 o) ∧ X.cell? ⟨M3, 3, none⟩ = some (.slice va n vc) ∧ X.cell? ⟨M3 + 1, 0, none⟩ = some (.int .i64 a0) ∧ X.cell? ⟨M3 + 1, 1, none⟩ = some (.int .i64 a1) ∧ X.cell? ⟨M3 + 1, 2, none⟩ = some (.int .i64 a2) ∧ X.cell? ⟨M3 + 1, 3, none⟩ = some (.int .i64 a3) ∧ X.cell? ⟨M3 + 1, 4, none⟩ = some (.int .i64 a4) ∧ X.cell? ⟨M6, 0, none⟩ = some (.int .i64 qc)) := fun X hX => by
    obtain ⟨z1, z2, z3⟩ := F2.out X hX
    obtain ⟨y0, y1, y2, y3, y4, y5, y6, y7, y8⟩ := (F1.out X z1).2.1
    exact ⟨y0, y1, y2, y3, y4, y5, y6, y7, y8, z2.c0⟩
  have DZ : Hid (Below v2.heap.size v2 v2) := Below.refl _ _
  have D0 : Hid (Below v2.heap.size v2 v2.drew) := (Below.refl _ _).drew
  go_cut [39] from 24 to 39 (fun c wx => c = .bool false ∧ Below v2.heap.size v2 wx)
  case first =>
    have fl0 := bfield0
    have gi0 := guardIO
    have gi1 := neqIO
    go_wp2_with fail
    go_region_held3 (fun X => X.cell? ⟨M3, 0, none⟩ = some (.int .i64 s) ∧ X.cell? ⟨M3, 1, none⟩ = some (.int .i64 t) ∧ X.cell? ⟨M3, 2, none⟩ = some (.int .i64 o) ∧ X.cell? ⟨M3, 3, none⟩ = some (.slice va n vc) ∧ X.cell? ⟨M3 + 1, 0, none⟩ = some (.int .i64 a0) ∧ X.cell? ⟨M3 + 1, 1, none⟩ = some (.int .i64 a1) ∧ X.cell? ⟨M3 + 1, 2, none⟩ = some (.int .i64 a2) ∧ X.cell? ⟨M3 + 1, 3, none⟩ = some (.int .i64 a3) ∧ X.cell? ⟨M3 + 1, 4, none⟩ = some (.int .i64 a4) ∧ X.cell? ⟨M6, 0, none⟩ = some (.int .i64 qc))
      (first | ((with_reducible refine HKS.out _ ?_); (first | with_reducible exact D3.out | with_reducible exact D2.out | with_reducible exact D1.out | with_reducible exact D0.out | with_reducible exact DZ.out)))
      (first
      | (go_at_call 34; (with_reducible refine (HSP2.out _ ?_).mono ?_); (with_reducible exact D0.out); rintro r wa ⟨⟨xa, ya, rfl, _⟩, hb⟩; have D1 : Hid (Below v2.heap.size v2 wa) := hb; clear hb)
      | (go_at_call 35; (with_reducible refine (HBI2.out _ ?_).mono ?_); (with_reducible exact D1.out); rintro r we ⟨rfl, hb⟩; have D2 : Hid (Below v2.heap.size v2 we) := hb; clear hb)
      | (go_at_call 36; (with_reducible refine (HBS2.out _ ?_).mono ?_); (with_reducible exact D2.out); rintro r wf ⟨rfl, hb⟩; have D3 : Hid (Below v2.heap.size v2 wf) := hb; clear hb))
    all_goals
      go_wp2_with fail
      go_meet
      exact ⟨rfl, D3.out⟩
  case rest =>
  obtain ⟨rfl, hcb⟩ := hcut
  have HCB : Hid (Below v2.heap.size v2 wc) := hcb
  generalize wc = wA at *
  clear hcb HBI2 HBS2 HKS DZ D0
  obtain ⟨e0, e1, e2, e3, e4, _, _⟩ := (F2.out _ HCB.out).2.1
  by_cases hq0 : qc = 0
  rotate_left
  · have hq1 : (qc != 0) = true := by simpa using hq0
    have HB : Hid (Below w.heap.size w wA) := (F1.out _ (F2.out _ HCB.out).1).1
    clear HQ
    go_wp2_with fail
    go_ret
    exact ⟨rfl, HB.out⟩
  subst hq0
  have HT : Hid (turnC s t o l a0 a1 a2 a3 a4 now = 0) := by
    show _ = _
    have h := HQ.out
    by_cases ht : turnC s t o l a0 a1 a2 a3 a4 now = 0
    · exact ht
    · rw [noteR, if_neg ht] at h
      exact (congrArg Prod.fst h).symm
  have HV : Hid ((⟨qs, qt, qo, ql⟩ : Bk) = noteV s t o l a0 a1 a2 now g) := by
    show _ = _
    have h := HQ.out
    rw [noteR, if_pos HT.out] at h
    exact congrArg Prod.snd h
  have HG := hid12 (good_of HT.out)
  have HBK : Hid (brkC qs qt qo ql = 0) := by have z := note_brk HT.out g; rw [← HV.out] at z; exact z
  clear HQ
  obtain ⟨v4, hv4⟩ : ∃ X, X = wA.alloc (.cells #[.int .i64 qs, .int .i64 qt, .int .i64 qo, .slice qa qn qk] 51) := ⟨_, rfl⟩
  obtain ⟨M8, hM8⟩ : ∃ M, wA.heap.size = M := ⟨_, rfl⟩
  have F4 : Hid (∀ X, Below v4.heap.size v4 X → Below v2.heap.size v2 X ∧ S4 X M8 (.int .i64 qs) (.int .i64 qt) (.int .i64 qo) (.slice qa qn qk) ∧ Below w.heap.size w X ∧ SBR X M3 (M3 + 1) s t o va n vc a0 a1 a2 a3 a4 ∧ MkIn X qa ql ∧ MkIn X va l) := by
    have al : Below wA.heap.size wA v4 := by rw [hv4]; exact (Below.refl _ _).alloc (Nat.le_refl _) _
    have c := S4.new wA (.int .i64 qs) (.int .i64 qt) (.int .i64 qo) (.slice qa qn qk) 51
    rw [← hv4, hM8] at c
    intro X hX
    have b2 : Below v2.heap.size v2 X := HCB.out.trans ((al.trans (hX.mono al.size)).mono HCB.out.size)
    have z := F2.out X b2
    have y := F1.out X z.1
    exact ⟨b2, c.keep hX, y.1, y.2.1, z.2.2, y.2.2⟩
  have HV4 := rulQ hv4
  have HBF4 : Hid (∀ X, Below v4.heap.size v4 X → Calls Try.prog 28 #[.agg #[.int .i64 qs, .int .i64 qt, .int .i64 qo, .slice qa qn qk]] X fun e w' => e = .returned (.int .i64 0) ∧ Below v4.heap.size v4 w') := fun X hX => by
    have z := implBrk_any qs qt qo qa qk ql X (F4.out X hX).2.2.2.2.1
    rw [HBK.out, HQN.out] at z
    exact z.mono fun _ _ ⟨h1, h2⟩ => ⟨h1, hX.trans (h2.mono hX.size)⟩
  have HSP4 : Hid (∀ X, Below v4.heap.size v4 X → Calls Try.prog 34 #[.agg #[.int .i64 s, .int .i64 t, .int .i64 o, .slice va n vc], .agg #[.int .i64 a0, .int .i64 a1, .int .i64 a2, .int .i64 a3, .int .i64 a4], .int .i64 now, .bool g] X fun e w' => (∃ xa xk, e = .returned (.agg #[.int .i64 0, .int .i64 qs, .int .i64 qt, .int .i64 qo, .slice xa qn xk]) ∧ MkIn w' xa ql) ∧ Below X.heap.size X w' ∧ Below v4.heap.size v4 w') := fun X hX => by
    have z1 := specNote_any X s t o va vc l a0 a1 a2 a3 a4 now g (by have := HLN.out; omega) (F4.out X hX).2.2.2.2.2
    rw [HLN.out, noteR, if_pos HT.out, ← HV.out] at z1
    exact z1.mono fun _ _ ⟨⟨xa, xk, h1, h3⟩, h2⟩ => ⟨⟨xa, xk, by rw [h1]; simp only [HQN.out], by obtain ⟨x1, x2, x3, x4⟩ := h3.in; simp only [Value.slice.injEq] at x3; rw [x3.1]; exact x4⟩, h2, hX.trans (h2.mono hX.size)⟩
  have HSM : Hid (∀ X xa xk, Below v4.heap.size v4 X → MkIn X xa ql → Calls Try.prog 37 #[.agg #[.int .i64 qs, .int .i64 qt, .int .i64 qo, .slice qa qn qk], .agg #[.int .i64 qs, .int .i64 qt, .int .i64 qo, .slice xa qn xk]] X fun e w' => e = .returned (.bool true) ∧ Below v4.heap.size v4 w') := fun X xa xk hX hm => by
    have hlen : ql.length ≤ 1048576 := by have z := (brkC_of HBK.out).2.1; omega
    have z := implSameK_any X qs qt qo qa qk ql qs qt qo xa xk ql hlen (F4.out X hX).2.2.2.2.1 hm
    rw [HQN.out, sameK_self] at z
    exact z.mono fun _ _ ⟨h1, h2⟩ => ⟨h1, hX.trans (h2.mono hX.size)⟩
  clear hv4 HSP2 HCB
  go_upto_region 10 with fail
  try simp only [hM8]
  rw [← HV4.out]
  clear HV4 hM8 e0 e1 e2 e3 e4
  have HKS : Hid (∀ X, Below v4.heap.size v4 X → X.cell? ⟨M3, 0, none⟩ = some (.int .i64 s) ∧ X.cell? ⟨M3, 1, none⟩ = some (.int .i64 t) ∧ X.cell? ⟨M3, 2, none⟩ = some (.int .i64 o) ∧ X.cell? ⟨M3, 3, none⟩ = some (.slice va n vc) ∧ X.cell? ⟨M3 + 1, 0, none⟩ = some (.int .i64 a0) ∧ X.cell? ⟨M3 + 1, 1, none⟩ = some (.int .i64 a1) ∧ X.cell? ⟨M3 + 1, 2, none⟩ = some (.int .i64 a2) ∧ X.cell? ⟨M3 + 1, 3, none⟩ = some (.int .i64 a3) ∧ X.cell? ⟨M3 + 1, 4, none⟩ = some (.int .i64 a4) ∧ X.cell? ⟨M8, 0, none⟩ = some (.int .i64 qs) ∧ X.cell? ⟨M8, 1, none⟩ = some (.int .i64 qt) ∧ X.cell? ⟨M8, 2, none⟩ = some (.int .i64 qo) ∧ X.cell? ⟨M8, 3, none⟩ = some (.slice qa qn qk)) := fun X hX => by
    obtain ⟨z1, z2, z3, z4, _⟩ := F4.out X hX
    obtain ⟨y0, y1, y2, y3, y4, y5, y6, y7, y8⟩ := z4
    exact ⟨y0, y1, y2, y3, y4, y5, y6, y7, y8, z2.c0, z2.c1, z2.c2, z2.c3⟩
  have DZ : Hid (Below v4.heap.size v4 v4) := Below.refl _ _
  have D0 : Hid (Below v4.heap.size v4 v4.drew) := (Below.refl _ _).drew
  go_cut [58] from 45 to 58 (fun c wx => c = .bool false ∧ Below v4.heap.size v4 wx)
  case first =>
    have fl1 := bfield1
    go_wp2_with fail
    go_region_held3 (fun X => X.cell? ⟨M3, 0, none⟩ = some (.int .i64 s) ∧ X.cell? ⟨M3, 1, none⟩ = some (.int .i64 t) ∧ X.cell? ⟨M3, 2, none⟩ = some (.int .i64 o) ∧ X.cell? ⟨M3, 3, none⟩ = some (.slice va n vc) ∧ X.cell? ⟨M3 + 1, 0, none⟩ = some (.int .i64 a0) ∧ X.cell? ⟨M3 + 1, 1, none⟩ = some (.int .i64 a1) ∧ X.cell? ⟨M3 + 1, 2, none⟩ = some (.int .i64 a2) ∧ X.cell? ⟨M3 + 1, 3, none⟩ = some (.int .i64 a3) ∧ X.cell? ⟨M3 + 1, 4, none⟩ = some (.int .i64 a4) ∧ X.cell? ⟨M8, 0, none⟩ = some (.int .i64 qs) ∧ X.cell? ⟨M8, 1, none⟩ = some (.int .i64 qt) ∧ X.cell? ⟨M8, 2, none⟩ = some (.int .i64 qo) ∧ X.cell? ⟨M8, 3, none⟩ = some (.slice qa qn qk))
      (first | ((with_reducible refine HKS.out _ ?_); (first | with_reducible exact D3.out | with_reducible exact D2.out | with_reducible exact D1.out | with_reducible exact D0.out | with_reducible exact DZ.out)))
      (first
      | (go_at_call 28; (with_reducible refine (HBF4.out _ ?_).mono ?_); (with_reducible exact D0.out); rintro r wa ⟨rfl, hb⟩; have D1 : Hid (Below v4.heap.size v4 wa) := hb; clear hb)
      | (go_at_call 34; (with_reducible refine (HSP4.out _ ?_).mono ?_); (with_reducible exact D1.out); rintro r we ⟨⟨xa, ya, rfl, hxa⟩, _, hb⟩; have D2 : Hid (Below v4.heap.size v4 we) := hb; have HXA := hid12 hxa; clear hb hxa)
      | (go_at_call 37; (with_reducible refine (HSM.out _ _ _ ?_ ?_).mono ?_); (with_reducible exact D2.out); (with_reducible exact HXA.out); rintro r wf ⟨rfl, hb⟩; have D3 : Hid (Below v4.heap.size v4 wf) := hb; clear hb))
    all_goals
      go_wp2_with fail
      go_meet
      exact ⟨rfl, D3.out⟩
  case rest =>
  obtain ⟨rfl, hcb⟩ := hcut
  have HCC : Hid (Below v4.heap.size v4 wc) := hcb
  generalize wc = wB at *
  clear hcb HBF4 HSP4 HKS DZ D0
  obtain ⟨z1, ⟨e0, e1, e2, e3, _, _⟩, zB, ⟨y0, y1, y2, y3, y4, y5, y6, y7, y8⟩, zq, zl⟩ := F4.out _ HCC.out
  have HB := hid12 zB
  have hs := HG.out.hs
  have HIN := hid12 zl
  have HIQ := hid12 zq
  clear z1 zB zl zq HBK
  rcases hs with rfl | rfl | rfl
  · have hv := HV.out
    unfold noteV at hv
    simp only [show ¬ (0 : Int) = 1 by decide, show ¬ (0 : Int) = 2 by decide, if_false] at hv
    have HBV : Hid (∀ X, Below v4.heap.size v4 X → Calls Try.prog 35 #[.agg #[.int .i64 qs, .int .i64 qt, .int .i64 qo, .slice qa qn qk]] X fun e w' => e = .returned (.agg #[.int .i64 0, .int .i64 (badM ql : Int)]) ∧ Below v4.heap.size v4 w') := fun X hX => by
      have hb0 : brkC qs qt qo ql = 0 := by have z := note_brk HT.out g; rw [← HV.out] at z; exact z
      have hlen : ql.length ≤ 1048576 := by have z := (brkC_of hb0).2.1; omega
      have z := implBadIn_any qs qt qo qa qk ql hlen X (F4.out X hX).2.2.2.2.1
      rw [badA, if_pos hb0, hb0, HQN.out] at z
      exact z.mono fun _ _ ⟨h1, h2⟩ => ⟨h1, hX.trans (h2.mono hX.size)⟩
    have HL2 := hid12 (noteL_pos l a0 now g)
    have fl2 := ifield1
    by_cases ht : tooB (noteL l a0 now g) a1 a2 = true
    · rw [if_pos ht] at hv
      simp only [Bk.mk.injEq] at hv
      obtain ⟨rfl, rfl, rfl, rfl⟩ := hv
      have hqn : qn = 0 := by have := HQN.out; simpa using this.symm
      subst hqn
      clear ht HL2 HV
      go_wp2_with fail
      refine (HBV.out _ HCC.out).mono ?_
      rintro r w5 ⟨rfl, hb5⟩
      clear e0 e1 e2 e3 y0 y1 y2 y3 y4 y5 y6 y7 y8
      obtain ⟨z1, ⟨e0, e1, e2, e3, _, _⟩, zB, ⟨y0, y1, y2, y3, y4, y5, y6, y7, y8⟩, _, _⟩ := F4.out _ hb5
      have HB5 := hid12 zB
      clear z1 zB hb5
      go_wp2_with fail
      go_ret
      exact ⟨rfl, HB5.out⟩
    · rw [if_neg ht] at hv
      simp only [Bk.mk.injEq] at hv
      obtain ⟨rfl, rfl, rfl, hl4⟩ := hv
      rw [← hl4] at HL2 ht
      have hl59 := HG.out.hn
      have hn1 : 1 ≤ qn ∧ qn ≤ 61 := by have h1 := HL2.out; have h2 := HQN.out; omega
      have mr := mul_room HG.out.hr2 (show ql.length ≤ 100 by have := HQN.out; omega)
      have bl := badM_le ql
      have hnot : (qn : Int) < a1 ∨ 1000 * (badM ql : Int) < a2 * (qn : Int) := by
        have h2 := HQN.out
        simp only [tooB, Bool.and_eq_true, decide_eq_true_eq, h2] at ht
        omega
      rw [HQN.out] at mr bl
      have w1 : IntKind.i64.wrap (1000 * (badM ql : Int)) = 1000 * (badM ql : Int) := by rw [IntKind.wrap_i64]; omega
      have w2 : IntKind.i64.wrap (a2 * (qn : Int)) = a2 * (qn : Int) := by rw [IntKind.wrap_i64]; omega
      have d0 : decide ((0 : Int) < (qn : Int)) = true := by simp; omega
      have hq0 : ¬ qn = 0 := by omega
      clear ht HL2 HV hl4 mr bl
      go_wp2_with fail
      refine (HBV.out _ HCC.out).mono ?_
      rintro r w5 ⟨rfl, hb5⟩
      clear e0 e1 e2 e3 y0 y1 y2 y3 y4 y5 y6 y7 y8
      obtain ⟨z1, ⟨e0, e1, e2, e3, _, _⟩, zB, ⟨y0, y1, y2, y3, y4, y5, y6, y7, y8⟩, _, _⟩ := F4.out _ hb5
      have HB5 := hid12 zB
      clear z1 zB hb5 HBV
      generalize (badM ql : Int) = bm at *
      by_cases hd : (qn : Int) < a1
      · have d1 : decide ((qn : Int) < a1) = true := by simpa using hd
        go_wp2_with fail
        go_ret
        exact ⟨rfl, HB5.out⟩
      · have d1 : decide ((qn : Int) < a1) = false := by simpa using hd
        have d2 : decide (1000 * bm < a2 * (qn : Int)) = true := by simp; omega
        have d3 : 1000 * bm < a2 * (qn : Int) := by omega
        go_wp2_with fail
        go_ret
        exact ⟨by simp, HB5.out⟩
  · have hv := HV.out
    simp only [noteV, if_true, Bk.mk.injEq] at hv
    obtain ⟨rfl, rfl, rfl, rfl⟩ := hv
    have hqn : qn = n := by have h1 := HQN.out; have h2 := HLN.out; omega
    subst hqn
    have HSF : Hid (Calls Try.prog 37 #[.agg #[.int .i64 1, .int .i64 qt, .int .i64 qo, .slice qa qn qk], .agg #[.int .i64 1, .int .i64 qt, .int .i64 qo, .slice va qn vc]] wB fun e w' => e = .returned (.bool true) ∧ Below v4.heap.size v4 w') := HSM.out wB va vc HCC.out HIN.out
    clear HV
    go_wp2_with fail
    refine HSF.out.mono ?_
    rintro r w5 ⟨rfl, hb5⟩
    have HB5 := hid12 (F4.out _ hb5).2.2.1
    clear hb5
    go_wp2_with fail
    go_ret
    exact ⟨rfl, HB5.out⟩
  · have hl0 := HG.out.hl0 (by decide)
    have hv := HV.out
    clear HSM HV
    cases g
    · simp only [noteV] at hv
      simp at hv
      obtain ⟨rfl, rfl, rfl, rfl⟩ := hv
      go_wp2_with fail
      go_ret
      exact ⟨rfl, HB.out⟩
    · simp only [noteV] at hv
      simp at hv
      obtain ⟨rfl, rfl, rfl, rfl⟩ := hv
      go_wp2_with fail
      go_ret
      exact ⟨rfl, HB.out⟩
end outcomes
end Go.Proofs.Ytmgidcigihpbeaa
