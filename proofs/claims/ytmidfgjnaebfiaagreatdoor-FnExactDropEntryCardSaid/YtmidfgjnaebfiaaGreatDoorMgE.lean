/-
  Texts of one claim, one behind the other.
-/
import Derived.ChangeArms
import Derived.Deep.RegionHeld3
import Derived.Test.YtmidfgjnaebfiaaGreatDoorMgD
/-
  PeekEntry, by the specification and by the program.
-/
namespace Go.Proofs.YtmidfgjnaebfiaaGreatDoor
open Go.ChangeShapes Go.WideShapes Go.ChangeAt Go.RowKit Go.Sort
/-- An answer of PeekEntry: code and entry. -/
def PeekOk (c : Int) (x : Ent) (base : Nat) (e : Ending) (w' : World) : Prop := ∃ r, e = .returned (.agg #[.int .i64 c, .string x.key, .int .i64 x.st, .slice r.ha x.hs.length r.hc, .slice r.ba x.bl.length r.bc, .int .i64 x.t, .int .i64 x.g, .int .i64 x.l, .int .i64 x.s, .int .i64 x.e, .bool x.b1, .bool x.b2, .slice r.ta x.ts.length r.tc, .int .i64 x.pins]) ∧ EntRow w' base x r
theorem peekR_bad {bu gu : Int} {tl kl : List Ent} {key : ByteArray} (h : storeC bu gu tl kl ≠ 0) : peekR bu gu tl kl key = (storeC bu gu tl kl, zeroEnt) := by unfold peekR; rw [if_pos h]
theorem peekR_none {bu gu : Int} {tl kl : List Ent} {key : ByteArray} (h : storeC bu gu tl kl = 0) (hf : (tl ++ kl).find? (isKey key) = none) : peekR bu gu tl kl key = (4, zeroEnt) := by unfold peekR; rw [if_neg (by simpa using h), hf]
theorem peekR_some {bu gu : Int} {tl kl : List Ent} {key : ByteArray} {x : Ent} (h : storeC bu gu tl kl = 0) (hf : (tl ++ kl).find? (isKey key) = some x) : peekR bu gu tl kl key = (0, x) := by unfold peekR; rw [if_neg (by simpa using h), hf]
set_option maxRecDepth 100000 in
set_option maxHeartbeats 16000000 in
theorem specPeek_any (w : World) (bu gu : Int) (ta ka : Option Addr) (tc kc : Nat) (tl kl : List (Ent × EntR)) (key : ByteArray) (hl : tl.length ≤ 1048576) (hk : kl.length ≤ 1048576) (hto : ∀ q ∈ tl ++ kl, EntOk q.1) (hft : ∀ q ∈ tl ++ kl, EntFit q.1) (ht : EntsIn w ta tl) (hq : EntsIn w ka kl) :
    Calls Tryz.prog 15 #[.agg #[.int .i64 bu, .int .i64 gu, .slice ta tl.length tc, .slice ka kl.length kc], .string key] w fun e w' => PeekOk (peekR bu gu (tl.map Prod.fst) (kl.map Prod.fst) key).1 (peekR bu gu (tl.map Prod.fst) (kl.map Prod.fst) key).2 w.heap.size e w' ∧ Below w.heap.size w w' := by
  have HF : Hid (∀ X, Below w.heap.size w X → Calls Tryz.prog 54 #[.agg #[.int .i64 bu, .int .i64 gu, .slice ta tl.length tc, .slice ka kl.length kc]] X fun r w' => r = .returned (.int .i64 (storeC bu gu (tl.map Prod.fst) (kl.map Prod.fst))) ∧ Below X.heap.size X w') := fun X hb => specSto_any X bu gu ta ka tc kc tl kl hl hk hto (ht.keep hb) (hq.keep hb)
  have HC : Hid (storeC bu gu (tl.map Prod.fst) (kl.map Prod.fst) = 0 → ∀ X, Below w.heap.size w X → X.cell? ⟨w.heap.size, 2, none⟩ = some (.slice ta tl.length tc) → X.cell? ⟨w.heap.size, 3, none⟩ = some (.slice ka kl.length kc) → Calls Tryz.prog 68 #[.pointer (some ⟨w.heap.size, 0, none⟩), .string key] X fun e w' => ((∃ x r, (tl.map Prod.fst ++ kl.map Prod.fst).find? (isKey key) = some x ∧ e = .returned (.tuple #[entV x r, .bool true]) ∧ EntRow w' X.heap.size x r) ∨ ((tl.map Prod.fst ++ kl.map Prod.fst).find? (isKey key) = none ∧ e = .returned (.tuple #[entV zeroEnt zeroR, .bool false]))) ∧ Below X.heap.size X w') := fun h0 X hX c2 c3 => l8Peek_at X w.heap.size key ta ka tc kc tl kl c2 c3 (by have := (storeC_zero h0).2.1; rw [List.length_map, List.length_map] at this; omega) (fun q hq' => ⟨(hft q hq').h, (hft q hq').b, (hft q hq').t⟩) (ht.keep hX) (hq.keep hX)
  obtain ⟨W, hW⟩ : ∃ W, W = (w.alloc (.cells #[.int .i64 bu, .int .i64 gu, .slice ta tl.length tc, .slice ka kl.length kc] 38)).alloc (.cells #[.int .i64 0, .string ⟨#[]⟩, .int .i64 0, .slice none 0 0, .slice none 0 0, .int .i64 0, .int .i64 0, .int .i64 0, .int .i64 0, .int .i64 0, .bool false, .bool false, .slice none 0 0, .int .i64 0] 34) := ⟨_, rfl⟩
  have HW : Hid (W = (w.alloc (.cells #[.int .i64 bu, .int .i64 gu, .slice ta tl.length tc, .slice ka kl.length kc] 38)).alloc (.cells #[.int .i64 0, .string ⟨#[]⟩, .int .i64 0, .slice none 0 0, .slice none 0 0, .int .i64 0, .int .i64 0, .int .i64 0, .int .i64 0, .int .i64 0, .bool false, .bool false, .slice none 0 0, .int .i64 0] 34)) := hW
  have K0 : Hid (Below w.heap.size w W ∧ S4 W w.heap.size (.int .i64 bu) (.int .i64 gu) (.slice ta tl.length tc) (.slice ka kl.length kc) ∧ E14 W (w.heap.size + 1) (.int .i64 0) (.string ⟨#[]⟩) (.int .i64 0) (.slice none 0 0) (.slice none 0 0) (.int .i64 0) (.int .i64 0) (.int .i64 0) (.int .i64 0) (.int .i64 0) (.bool false) (.bool false) (.slice none 0 0) (.int .i64 0) ∧ w.heap.size + 2 ≤ W.heap.size) := by
    rw [hW]
    refine ⟨((Below.refl _ _).alloc (Nat.le_refl _) _).alloc (by simp) _, (S4.new w _ _ _ _ _).keep ((Below.refl _ _).alloc (Nat.le_refl _) _), ?_, by simp⟩
    have := E14.new (w.alloc (.cells #[.int .i64 bu, .int .i64 gu, .slice ta tl.length tc, .slice ka kl.length kc] 38)) (.int .i64 0) (.string ⟨#[]⟩) (.int .i64 0) (.slice none 0 0) (.slice none 0 0) (.int .i64 0) (.int .i64 0) (.int .i64 0) (.int .i64 0) (.int .i64 0) (.bool false) (.bool false) (.slice none 0 0) (.int .i64 0) 34
    simpa using this
  have PB : Hid (storeC bu gu (tl.map Prod.fst) (kl.map Prod.fst) ≠ 0 → peekR bu gu (tl.map Prod.fst) (kl.map Prod.fst) key = (storeC bu gu (tl.map Prod.fst) (kl.map Prod.fst), zeroEnt)) := peekR_bad
  have PN : Hid (storeC bu gu (tl.map Prod.fst) (kl.map Prod.fst) = 0 → (tl.map Prod.fst ++ kl.map Prod.fst).find? (isKey key) = none → peekR bu gu (tl.map Prod.fst) (kl.map Prod.fst) key = (4, zeroEnt)) := peekR_none
  have PS : Hid (∀ x, storeC bu gu (tl.map Prod.fst) (kl.map Prod.fst) = 0 → (tl.map Prod.fst ++ kl.map Prod.fst).find? (isKey key) = some x → peekR bu gu (tl.map Prod.fst) (kl.map Prod.fst) key = (0, x)) := fun x => peekR_some
  clear hW hto hft ht hq hl hk
  generalize peekR bu gu (tl.map Prod.fst) (kl.map Prod.fst) key = pr at *
  obtain ⟨c, hc⟩ : ∃ c, storeC bu gu (tl.map Prod.fst) (kl.map Prod.fst) = c := ⟨_, rfl⟩
  rw [hc] at HF HC PB PN PS
  clear hc
  generalize hfo : (tl.map Prod.fst ++ kl.map Prod.fst).find? (isKey key) = fo at *
  clear hfo
  generalize tl.length = tn at *
  generalize kl.length = kn at *
  by_cases c0 : c = 0
  rotate_left
  · rw [PB.out c0]
    clear HC PB PN PS
    go_enter Tryz.func15, Tryz.ntmps15
    go_wp2_with fail
    rw [← HW.out]
    refine (HF.out _ K0.out.1).mono ?_
    rintro r w1 ⟨rfl, hb1⟩
    have K1 : Hid (Below w.heap.size w w1 ∧ S4 w1 w.heap.size (.int .i64 bu) (.int .i64 gu) (.slice ta tn tc) (.slice ka kn kc) ∧ E14 w1 (w.heap.size + 1) (.int .i64 0) (.string ⟨#[]⟩) (.int .i64 0) (.slice none 0 0) (.slice none 0 0) (.int .i64 0) (.int .i64 0) (.int .i64 0) (.int .i64 0) (.int .i64 0) (.bool false) (.bool false) (.slice none 0 0) (.int .i64 0) ∧ w.heap.size + 2 ≤ w1.heap.size) := ⟨K0.out.1.trans (hb1.mono K0.out.1.size), K0.out.2.1.keep hb1, K0.out.2.2.1.keep hb1, Nat.le_trans K0.out.2.2.2 hb1.size⟩
    clear hb1 K0 HW HF
    have z0 := K1.out.2.2.1.c0
    have zf0 := K1.out.2.2.1.fr 0
    have z1 := K1.out.2.2.1.c1
    have zf1 := K1.out.2.2.1.fr 1
    have z2 := K1.out.2.2.1.c2
    have zf2 := K1.out.2.2.1.fr 2
    have z3 := K1.out.2.2.1.c3
    have zf3 := K1.out.2.2.1.fr 3
    have z4 := K1.out.2.2.1.c4
    have zf4 := K1.out.2.2.1.fr 4
    have z5 := K1.out.2.2.1.c5
    have zf5 := K1.out.2.2.1.fr 5
    have z6 := K1.out.2.2.1.c6
    have zf6 := K1.out.2.2.1.fr 6
    have z7 := K1.out.2.2.1.c7
    have zf7 := K1.out.2.2.1.fr 7
    have z8 := K1.out.2.2.1.c8
    have zf8 := K1.out.2.2.1.fr 8
    have z9 := K1.out.2.2.1.c9
    have zf9 := K1.out.2.2.1.fr 9
    have z10 := K1.out.2.2.1.c10
    have zf10 := K1.out.2.2.1.fr 10
    have z11 := K1.out.2.2.1.c11
    have zf11 := K1.out.2.2.1.fr 11
    have z12 := K1.out.2.2.1.c12
    have zf12 := K1.out.2.2.1.fr 12
    have z13 := K1.out.2.2.1.c13
    have zf13 := K1.out.2.2.1.fr 13
    have FIN : Hid (∀ u0 u1 u2 u3 u4 u5 u6 u7 u8 u9 u10 u11 u12 u13, EntRow ((((((((((((((w1.setCell ⟨w.heap.size + 1, 0, none⟩ u0).setCell ⟨w.heap.size + 1, 1, none⟩ u1).setCell ⟨w.heap.size + 1, 2, none⟩ u2).setCell ⟨w.heap.size + 1, 3, none⟩ u3).setCell ⟨w.heap.size + 1, 4, none⟩ u4).setCell ⟨w.heap.size + 1, 5, none⟩ u5).setCell ⟨w.heap.size + 1, 6, none⟩ u6).setCell ⟨w.heap.size + 1, 7, none⟩ u7).setCell ⟨w.heap.size + 1, 8, none⟩ u8).setCell ⟨w.heap.size + 1, 9, none⟩ u9).setCell ⟨w.heap.size + 1, 10, none⟩ u10).setCell ⟨w.heap.size + 1, 11, none⟩ u11).setCell ⟨w.heap.size + 1, 12, none⟩ u12).setCell ⟨w.heap.size + 1, 13, none⟩ u13) w.heap.size zeroEnt zeroR ∧ Below w.heap.size w ((((((((((((((w1.setCell ⟨w.heap.size + 1, 0, none⟩ u0).setCell ⟨w.heap.size + 1, 1, none⟩ u1).setCell ⟨w.heap.size + 1, 2, none⟩ u2).setCell ⟨w.heap.size + 1, 3, none⟩ u3).setCell ⟨w.heap.size + 1, 4, none⟩ u4).setCell ⟨w.heap.size + 1, 5, none⟩ u5).setCell ⟨w.heap.size + 1, 6, none⟩ u6).setCell ⟨w.heap.size + 1, 7, none⟩ u7).setCell ⟨w.heap.size + 1, 8, none⟩ u8).setCell ⟨w.heap.size + 1, 9, none⟩ u9).setCell ⟨w.heap.size + 1, 10, none⟩ u10).setCell ⟨w.heap.size + 1, 11, none⟩ u11).setCell ⟨w.heap.size + 1, 12, none⟩ u12).setCell ⟨w.heap.size + 1, 13, none⟩ u13)) := fun u0 u1 u2 u3 u4 u5 u6 u7 u8 u9 u10 u11 u12 u13 => ⟨zeroRow _ _, ((((((((((((((K1.out.1.setCell (by simp) u0).setCell (by simp) u1).setCell (by simp) u2).setCell (by simp) u3).setCell (by simp) u4).setCell (by simp) u5).setCell (by simp) u6).setCell (by simp) u7).setCell (by simp) u8).setCell (by simp) u9).setCell (by simp) u10).setCell (by simp) u11).setCell (by simp) u12).setCell (by simp) u13)⟩
    go_wp2_with fail
    exact bodyPost_ret (v := .agg #[.int .i64 c, .string ⟨#[]⟩, .int .i64 0, .slice none 0 0, .slice none 0 0, .int .i64 0, .int .i64 0, .int .i64 0, .int .i64 0, .int .i64 0, .bool false, .bool false, .slice none 0 0, .int .i64 0]) (by simp [results, Tryz.results15, go_sem, z0, z1, z2, z3, z4, z5, z6, z7, z8, z9, z10, z11, z12, z13]) rfl ⟨⟨zeroR, rfl, (FIN.out _ _ _ _ _ _ _ _ _ _ _ _ _ _).1⟩, (FIN.out _ _ _ _ _ _ _ _ _ _ _ _ _ _).2⟩
  subst c0
  cases fo with
  | none =>
    rw [PN.out rfl rfl]
    have HC1 := HC.out rfl
    clear HC PB PS PN
    go_enter Tryz.func15, Tryz.ntmps15
    go_wp2_with fail
    rw [← HW.out]
    refine (HF.out _ K0.out.1).mono ?_
    rintro r w1 ⟨rfl, hb1⟩
    have K1 : Hid (Below w.heap.size w w1 ∧ S4 w1 w.heap.size (.int .i64 bu) (.int .i64 gu) (.slice ta tn tc) (.slice ka kn kc) ∧ E14 w1 (w.heap.size + 1) (.int .i64 0) (.string ⟨#[]⟩) (.int .i64 0) (.slice none 0 0) (.slice none 0 0) (.int .i64 0) (.int .i64 0) (.int .i64 0) (.int .i64 0) (.int .i64 0) (.bool false) (.bool false) (.slice none 0 0) (.int .i64 0) ∧ w.heap.size + 2 ≤ w1.heap.size) := ⟨K0.out.1.trans (hb1.mono K0.out.1.size), K0.out.2.1.keep hb1, K0.out.2.2.1.keep hb1, Nat.le_trans K0.out.2.2.2 hb1.size⟩
    clear hb1 K0 HW HF
    have q2 := K1.out.2.1.c2
    have q3 := K1.out.2.1.c3
    go_wp2_with fail
    refine (HC1 _ K1.out.1 q2 q3).mono ?_
    rintro r w2 ⟨hcase, hb2⟩
    have K2 : Hid (Below w.heap.size w w2 ∧ E14 w2 (w.heap.size + 1) (.int .i64 0) (.string ⟨#[]⟩) (.int .i64 0) (.slice none 0 0) (.slice none 0 0) (.int .i64 0) (.int .i64 0) (.int .i64 0) (.int .i64 0) (.int .i64 0) (.bool false) (.bool false) (.slice none 0 0) (.int .i64 0) ∧ w.heap.size + 2 ≤ w1.heap.size ∧ w1.heap.size ≤ w2.heap.size) := ⟨K1.out.1.trans (hb2.mono K1.out.1.size), K1.out.2.2.1.keep hb2, K1.out.2.2.2, hb2.size⟩
    clear hb2 K1 q2 q3 HC1
    rcases hcase with ⟨x, r, hfx, _⟩ | ⟨_, rfl⟩
    · cases hfx
    · have aV : Below w2.heap.size w2 (w2.alloc (.cells #[.string ⟨#[]⟩, .int .i64 0, .slice none 0 0, .slice none 0 0, .int .i64 0, .int .i64 0, .int .i64 0, .int .i64 0, .int .i64 0, .bool false, .bool false, .slice none 0 0, .int .i64 0] 32)) := (Below.refl _ _).alloc (Nat.le_refl _) _
      have K9 : Hid (Below w.heap.size w (w2.alloc (.cells #[.string ⟨#[]⟩, .int .i64 0, .slice none 0 0, .slice none 0 0, .int .i64 0, .int .i64 0, .int .i64 0, .int .i64 0, .int .i64 0, .bool false, .bool false, .slice none 0 0, .int .i64 0] 32)) ∧ E14 (w2.alloc (.cells #[.string ⟨#[]⟩, .int .i64 0, .slice none 0 0, .slice none 0 0, .int .i64 0, .int .i64 0, .int .i64 0, .int .i64 0, .int .i64 0, .bool false, .bool false, .slice none 0 0, .int .i64 0] 32)) (w.heap.size + 1) (.int .i64 0) (.string ⟨#[]⟩) (.int .i64 0) (.slice none 0 0) (.slice none 0 0) (.int .i64 0) (.int .i64 0) (.int .i64 0) (.int .i64 0) (.int .i64 0) (.bool false) (.bool false) (.slice none 0 0) (.int .i64 0) ∧ w.heap.size + 2 ≤ w1.heap.size) := ⟨K2.out.1.trans (aV.mono K2.out.1.size), K2.out.2.1.keep aV, K2.out.2.2.1⟩
      clear K2 aV
      unfold entV entW zeroEnt zeroR
      simp only [List.length_nil]
      have z0 := K9.out.2.1.c0
      have zf0 := K9.out.2.1.fr 0
      have z1 := K9.out.2.1.c1
      have zf1 := K9.out.2.1.fr 1
      have z2 := K9.out.2.1.c2
      have zf2 := K9.out.2.1.fr 2
      have z3 := K9.out.2.1.c3
      have zf3 := K9.out.2.1.fr 3
      have z4 := K9.out.2.1.c4
      have zf4 := K9.out.2.1.fr 4
      have z5 := K9.out.2.1.c5
      have zf5 := K9.out.2.1.fr 5
      have z6 := K9.out.2.1.c6
      have zf6 := K9.out.2.1.fr 6
      have z7 := K9.out.2.1.c7
      have zf7 := K9.out.2.1.fr 7
      have z8 := K9.out.2.1.c8
      have zf8 := K9.out.2.1.fr 8
      have z9 := K9.out.2.1.c9
      have zf9 := K9.out.2.1.fr 9
      have z10 := K9.out.2.1.c10
      have zf10 := K9.out.2.1.fr 10
      have z11 := K9.out.2.1.c11
      have zf11 := K9.out.2.1.fr 11
      have z12 := K9.out.2.1.c12
      have zf12 := K9.out.2.1.fr 12
      have z13 := K9.out.2.1.c13
      have zf13 := K9.out.2.1.fr 13
      have FIN : Hid (∀ u0 u1 u2 u3 u4 u5 u6 u7 u8 u9 u10 u11 u12 u13, EntRow (((((((((((((((w2.alloc (.cells #[.string ⟨#[]⟩, .int .i64 0, .slice none 0 0, .slice none 0 0, .int .i64 0, .int .i64 0, .int .i64 0, .int .i64 0, .int .i64 0, .bool false, .bool false, .slice none 0 0, .int .i64 0] 32)).setCell ⟨w.heap.size + 1, 0, none⟩ u0).setCell ⟨w.heap.size + 1, 1, none⟩ u1).setCell ⟨w.heap.size + 1, 2, none⟩ u2).setCell ⟨w.heap.size + 1, 3, none⟩ u3).setCell ⟨w.heap.size + 1, 4, none⟩ u4).setCell ⟨w.heap.size + 1, 5, none⟩ u5).setCell ⟨w.heap.size + 1, 6, none⟩ u6).setCell ⟨w.heap.size + 1, 7, none⟩ u7).setCell ⟨w.heap.size + 1, 8, none⟩ u8).setCell ⟨w.heap.size + 1, 9, none⟩ u9).setCell ⟨w.heap.size + 1, 10, none⟩ u10).setCell ⟨w.heap.size + 1, 11, none⟩ u11).setCell ⟨w.heap.size + 1, 12, none⟩ u12).setCell ⟨w.heap.size + 1, 13, none⟩ u13) w.heap.size zeroEnt zeroR ∧ Below w.heap.size w (((((((((((((((w2.alloc (.cells #[.string ⟨#[]⟩, .int .i64 0, .slice none 0 0, .slice none 0 0, .int .i64 0, .int .i64 0, .int .i64 0, .int .i64 0, .int .i64 0, .bool false, .bool false, .slice none 0 0, .int .i64 0] 32)).setCell ⟨w.heap.size + 1, 0, none⟩ u0).setCell ⟨w.heap.size + 1, 1, none⟩ u1).setCell ⟨w.heap.size + 1, 2, none⟩ u2).setCell ⟨w.heap.size + 1, 3, none⟩ u3).setCell ⟨w.heap.size + 1, 4, none⟩ u4).setCell ⟨w.heap.size + 1, 5, none⟩ u5).setCell ⟨w.heap.size + 1, 6, none⟩ u6).setCell ⟨w.heap.size + 1, 7, none⟩ u7).setCell ⟨w.heap.size + 1, 8, none⟩ u8).setCell ⟨w.heap.size + 1, 9, none⟩ u9).setCell ⟨w.heap.size + 1, 10, none⟩ u10).setCell ⟨w.heap.size + 1, 11, none⟩ u11).setCell ⟨w.heap.size + 1, 12, none⟩ u12).setCell ⟨w.heap.size + 1, 13, none⟩ u13)) := fun u0 u1 u2 u3 u4 u5 u6 u7 u8 u9 u10 u11 u12 u13 => ⟨zeroRow _ _, ((((((((((((((K9.out.1.setCell (by simp) u0).setCell (by simp) u1).setCell (by simp) u2).setCell (by simp) u3).setCell (by simp) u4).setCell (by simp) u5).setCell (by simp) u6).setCell (by simp) u7).setCell (by simp) u8).setCell (by simp) u9).setCell (by simp) u10).setCell (by simp) u11).setCell (by simp) u12).setCell (by simp) u13)⟩
      go_wp2_with fail
      exact bodyPost_ret (v := .agg #[.int .i64 4, .string ⟨#[]⟩, .int .i64 0, .slice none 0 0, .slice none 0 0, .int .i64 0, .int .i64 0, .int .i64 0, .int .i64 0, .int .i64 0, .bool false, .bool false, .slice none 0 0, .int .i64 0]) (by simp [results, Tryz.results15, go_sem, z0, z1, z2, z3, z4, z5, z6, z7, z8, z9, z10, z11, z12, z13]) rfl ⟨⟨zeroR, rfl, (FIN.out _ _ _ _ _ _ _ _ _ _ _ _ _ _).1⟩, (FIN.out _ _ _ _ _ _ _ _ _ _ _ _ _ _).2⟩
  | some y =>
    rw [PS.out y rfl rfl]
    have HC1 := HC.out rfl
    clear HC PB PS PN
    go_enter Tryz.func15, Tryz.ntmps15
    go_wp2_with fail
    rw [← HW.out]
    refine (HF.out _ K0.out.1).mono ?_
    rintro r w1 ⟨rfl, hb1⟩
    have K1 : Hid (Below w.heap.size w w1 ∧ S4 w1 w.heap.size (.int .i64 bu) (.int .i64 gu) (.slice ta tn tc) (.slice ka kn kc) ∧ E14 w1 (w.heap.size + 1) (.int .i64 0) (.string ⟨#[]⟩) (.int .i64 0) (.slice none 0 0) (.slice none 0 0) (.int .i64 0) (.int .i64 0) (.int .i64 0) (.int .i64 0) (.int .i64 0) (.bool false) (.bool false) (.slice none 0 0) (.int .i64 0) ∧ w.heap.size + 2 ≤ w1.heap.size) := ⟨K0.out.1.trans (hb1.mono K0.out.1.size), K0.out.2.1.keep hb1, K0.out.2.2.1.keep hb1, Nat.le_trans K0.out.2.2.2 hb1.size⟩
    clear hb1 K0 HW HF
    have q2 := K1.out.2.1.c2
    have q3 := K1.out.2.1.c3
    go_wp2_with fail
    refine (HC1 _ K1.out.1 q2 q3).mono ?_
    rintro r w2 ⟨hcase, hb2⟩
    have K2 : Hid (Below w.heap.size w w2 ∧ E14 w2 (w.heap.size + 1) (.int .i64 0) (.string ⟨#[]⟩) (.int .i64 0) (.slice none 0 0) (.slice none 0 0) (.int .i64 0) (.int .i64 0) (.int .i64 0) (.int .i64 0) (.int .i64 0) (.bool false) (.bool false) (.slice none 0 0) (.int .i64 0) ∧ w.heap.size + 2 ≤ w1.heap.size ∧ w1.heap.size ≤ w2.heap.size) := ⟨K1.out.1.trans (hb2.mono K1.out.1.size), K1.out.2.2.1.keep hb2, K1.out.2.2.2, hb2.size⟩
    clear hb2 K1 q2 q3 HC1
    rcases hcase with ⟨x, r, hfx, rfl, hrow⟩ | ⟨hfx, _⟩
    · obtain rfl := Option.some.inj hfx
      have aV : Below w2.heap.size w2 (w2.alloc (.cells #[.string y.key, .int .i64 y.st, .slice r.ha y.hs.length r.hc, .slice r.ba y.bl.length r.bc, .int .i64 y.t, .int .i64 y.g, .int .i64 y.l, .int .i64 y.s, .int .i64 y.e, .bool y.b1, .bool y.b2, .slice r.ta y.ts.length r.tc, .int .i64 y.pins] 32)) := (Below.refl _ _).alloc (Nat.le_refl _) _
      have HRW : Hid (EntRow (w2.alloc (.cells #[.string y.key, .int .i64 y.st, .slice r.ha y.hs.length r.hc, .slice r.ba y.bl.length r.bc, .int .i64 y.t, .int .i64 y.g, .int .i64 y.l, .int .i64 y.s, .int .i64 y.e, .bool y.b1, .bool y.b2, .slice r.ta y.ts.length r.tc, .int .i64 y.pins] 32)) w1.heap.size y r) := hrow.below aV
      have K9 : Hid (Below w.heap.size w (w2.alloc (.cells #[.string y.key, .int .i64 y.st, .slice r.ha y.hs.length r.hc, .slice r.ba y.bl.length r.bc, .int .i64 y.t, .int .i64 y.g, .int .i64 y.l, .int .i64 y.s, .int .i64 y.e, .bool y.b1, .bool y.b2, .slice r.ta y.ts.length r.tc, .int .i64 y.pins] 32)) ∧ E14 (w2.alloc (.cells #[.string y.key, .int .i64 y.st, .slice r.ha y.hs.length r.hc, .slice r.ba y.bl.length r.bc, .int .i64 y.t, .int .i64 y.g, .int .i64 y.l, .int .i64 y.s, .int .i64 y.e, .bool y.b1, .bool y.b2, .slice r.ta y.ts.length r.tc, .int .i64 y.pins] 32)) (w.heap.size + 1) (.int .i64 0) (.string ⟨#[]⟩) (.int .i64 0) (.slice none 0 0) (.slice none 0 0) (.int .i64 0) (.int .i64 0) (.int .i64 0) (.int .i64 0) (.int .i64 0) (.bool false) (.bool false) (.slice none 0 0) (.int .i64 0) ∧ w.heap.size + 2 ≤ w1.heap.size) := ⟨K2.out.1.trans (aV.mono K2.out.1.size), K2.out.2.1.keep aV, K2.out.2.2.1⟩
      clear hrow hfx K2 aV
      unfold entV entW
      have z0 := K9.out.2.1.c0
      have zf0 := K9.out.2.1.fr 0
      have z1 := K9.out.2.1.c1
      have zf1 := K9.out.2.1.fr 1
      have z2 := K9.out.2.1.c2
      have zf2 := K9.out.2.1.fr 2
      have z3 := K9.out.2.1.c3
      have zf3 := K9.out.2.1.fr 3
      have z4 := K9.out.2.1.c4
      have zf4 := K9.out.2.1.fr 4
      have z5 := K9.out.2.1.c5
      have zf5 := K9.out.2.1.fr 5
      have z6 := K9.out.2.1.c6
      have zf6 := K9.out.2.1.fr 6
      have z7 := K9.out.2.1.c7
      have zf7 := K9.out.2.1.fr 7
      have z8 := K9.out.2.1.c8
      have zf8 := K9.out.2.1.fr 8
      have z9 := K9.out.2.1.c9
      have zf9 := K9.out.2.1.fr 9
      have z10 := K9.out.2.1.c10
      have zf10 := K9.out.2.1.fr 10
      have z11 := K9.out.2.1.c11
      have zf11 := K9.out.2.1.fr 11
      have z12 := K9.out.2.1.c12
      have zf12 := K9.out.2.1.fr 12
      have z13 := K9.out.2.1.c13
      have zf13 := K9.out.2.1.fr 13
      have hle := K9.out.2.2
      have FIN : Hid (∀ u0 u1 u2 u3 u4 u5 u6 u7 u8 u9 u10 u11 u12 u13, EntRow (((((((((((((((w2.alloc (.cells #[.string y.key, .int .i64 y.st, .slice r.ha y.hs.length r.hc, .slice r.ba y.bl.length r.bc, .int .i64 y.t, .int .i64 y.g, .int .i64 y.l, .int .i64 y.s, .int .i64 y.e, .bool y.b1, .bool y.b2, .slice r.ta y.ts.length r.tc, .int .i64 y.pins] 32)).setCell ⟨w.heap.size + 1, 0, none⟩ u0).setCell ⟨w.heap.size + 1, 1, none⟩ u1).setCell ⟨w.heap.size + 1, 2, none⟩ u2).setCell ⟨w.heap.size + 1, 3, none⟩ u3).setCell ⟨w.heap.size + 1, 4, none⟩ u4).setCell ⟨w.heap.size + 1, 5, none⟩ u5).setCell ⟨w.heap.size + 1, 6, none⟩ u6).setCell ⟨w.heap.size + 1, 7, none⟩ u7).setCell ⟨w.heap.size + 1, 8, none⟩ u8).setCell ⟨w.heap.size + 1, 9, none⟩ u9).setCell ⟨w.heap.size + 1, 10, none⟩ u10).setCell ⟨w.heap.size + 1, 11, none⟩ u11).setCell ⟨w.heap.size + 1, 12, none⟩ u12).setCell ⟨w.heap.size + 1, 13, none⟩ u13) w.heap.size y r ∧ Below w.heap.size w (((((((((((((((w2.alloc (.cells #[.string y.key, .int .i64 y.st, .slice r.ha y.hs.length r.hc, .slice r.ba y.bl.length r.bc, .int .i64 y.t, .int .i64 y.g, .int .i64 y.l, .int .i64 y.s, .int .i64 y.e, .bool y.b1, .bool y.b2, .slice r.ta y.ts.length r.tc, .int .i64 y.pins] 32)).setCell ⟨w.heap.size + 1, 0, none⟩ u0).setCell ⟨w.heap.size + 1, 1, none⟩ u1).setCell ⟨w.heap.size + 1, 2, none⟩ u2).setCell ⟨w.heap.size + 1, 3, none⟩ u3).setCell ⟨w.heap.size + 1, 4, none⟩ u4).setCell ⟨w.heap.size + 1, 5, none⟩ u5).setCell ⟨w.heap.size + 1, 6, none⟩ u6).setCell ⟨w.heap.size + 1, 7, none⟩ u7).setCell ⟨w.heap.size + 1, 8, none⟩ u8).setCell ⟨w.heap.size + 1, 9, none⟩ u9).setCell ⟨w.heap.size + 1, 10, none⟩ u10).setCell ⟨w.heap.size + 1, 11, none⟩ u11).setCell ⟨w.heap.size + 1, 12, none⟩ u12).setCell ⟨w.heap.size + 1, 13, none⟩ u13)) := fun u0 u1 u2 u3 u4 u5 u6 u7 u8 u9 u10 u11 u12 u13 => ⟨((((((((((((((HRW.out.off1 u0 (by omega)).off1 u1 (by omega)).off1 u2 (by omega)).off1 u3 (by omega)).off1 u4 (by omega)).off1 u5 (by omega)).off1 u6 (by omega)).off1 u7 (by omega)).off1 u8 (by omega)).off1 u9 (by omega)).off1 u10 (by omega)).off1 u11 (by omega)).off1 u12 (by omega)).off1 u13 (by omega)).lower (by omega), ((((((((((((((K9.out.1.setCell (by simp) u0).setCell (by simp) u1).setCell (by simp) u2).setCell (by simp) u3).setCell (by simp) u4).setCell (by simp) u5).setCell (by simp) u6).setCell (by simp) u7).setCell (by simp) u8).setCell (by simp) u9).setCell (by simp) u10).setCell (by simp) u11).setCell (by simp) u12).setCell (by simp) u13)⟩
      clear HRW hle
      go_wp2_with fail
      exact bodyPost_ret (v := .agg #[.int .i64 0, .string y.key, .int .i64 y.st, .slice r.ha y.hs.length r.hc, .slice r.ba y.bl.length r.bc, .int .i64 y.t, .int .i64 y.g, .int .i64 y.l, .int .i64 y.s, .int .i64 y.e, .bool y.b1, .bool y.b2, .slice r.ta y.ts.length r.tc, .int .i64 y.pins]) (by simp [results, Tryz.results15, go_sem, z0, z1, z2, z3, z4, z5, z6, z7, z8, z9, z10, z11, z12, z13]) rfl ⟨⟨r, rfl, (FIN.out _ _ _ _ _ _ _ _ _ _ _ _ _ _).1⟩, (FIN.out _ _ _ _ _ _ _ _ _ _ _ _ _ _).2⟩
    · cases hfx
set_option maxRecDepth 100000 in
set_option maxHeartbeats 16000000 in
theorem implPeek_any (w : World) (bu gu : Int) (ta ka : Option Addr) (tc kc : Nat) (tl kl : List (Ent × EntR)) (key : ByteArray) (hset : SetIs w) (hl : tl.length ≤ 1048576) (hk : kl.length ≤ 1048576) (hto : ∀ q ∈ tl ++ kl, EntOk q.1)  (hts : ∀ q ∈ tl ++ kl, ∀ t ∈ q.1.ts, t.size ≤ 1048576) (ht : EntsIn w ta tl) (hq : EntsIn w ka kl) :
    Calls Tryz.prog 17 #[.agg #[.int .i64 bu, .int .i64 gu, .slice ta tl.length tc, .slice ka kl.length kc], .string key] w fun e w' => PeekOk (peekR bu gu (tl.map Prod.fst) (kl.map Prod.fst) key).1 (peekR bu gu (tl.map Prod.fst) (kl.map Prod.fst) key).2 w.heap.size e w' ∧ Below w.heap.size w w' := by
  have HF : Hid (∀ X, Below w.heap.size w X → Calls Tryz.prog 70 #[.agg #[.int .i64 bu, .int .i64 gu, .slice ta tl.length tc, .slice ka kl.length kc], .string key] X fun r w' => r = .returned (.int .i64 (keyC bu gu (tl.map Prod.fst) (kl.map Prod.fst) key)) ∧ Below X.heap.size X w') := fun X hb => keyFault_any X bu gu ta ka tc kc tl kl key (hset.below hb) hl hk hto (ht.keep hb) (hq.keep hb)
  have HC : Hid (storeC bu gu (tl.map Prod.fst) (kl.map Prod.fst) = 0 → ∀ X, Below w.heap.size w X → Calls Tryz.prog 72 #[.agg #[.int .i64 bu, .int .i64 gu, .slice ta tl.length tc, .slice ka kl.length kc]] X fun e w' => (∃ v1 v2, e = .returned (.agg #[v1, v2]) ∧ Calls Tryz.prog 73 #[.agg #[v1, v2], .string key] w' fun e w'' => (∃ v, e = .returned v ∧ FindH (hdl2 ta ka tl kl) key v) ∧ Below w'.heap.size w' w'') ∧ Below X.heap.size X w') := fun h0 X hX => shFind_any X bu gu ta ka tc kc tl kl key h0 (ht.keep hX) (hq.keep hX)
  have HA : Hid (storeC bu gu (tl.map Prod.fst) (kl.map Prod.fst) = 0 → ∀ x, (tl.map Prod.fst ++ kl.map Prod.fst).find? (isKey key) = some x → ∀ v, FindH (hdl2 ta ka tl kl) key v → ∃ p, v = .pointer (some p) ∧ ∀ X, Below w.heap.size w X → Calls Tryz.prog 71 #[.pointer (some p)] X fun e w' => (∃ r, e = .returned (entV x r) ∧ EntRow w' X.heap.size x r) ∧ Below X.heap.size X w') := fun h0 x hx v hv => by
    obtain ⟨_, _, z3, _, _, _⟩ := storeC_zero h0
    rcases hv with ⟨h, hm, e, rfl⟩ | ⟨e, rfl⟩
    · rw [hdl2_x] at e
      rw [hx] at e
      obtain rfl := Option.some.inj e
      refine ⟨_, rfl, fun X hX => ?_⟩
      have hmem : h.x ∈ tl.map Prod.fst ++ kl.map Prod.fst := by rw [← hdl2_x ta ka tl kl]; exact List.mem_map_of_mem hm
      refine anew_at X h (faultE_zero z3 h.x hmem) ?_ (hdl2_there (ht.keep hX) (hq.keep hX) h hm)
      rw [← List.map_append] at hmem
      obtain ⟨q, hq', e2⟩ := List.mem_map.1 hmem
      rw [← e2]
      exact hts q hq'
    · rw [hdl2_x] at e
      rw [hx] at e
      cases e
  obtain ⟨W, hW⟩ : ∃ W, W = (w.alloc (.cells #[.int .i64 bu, .int .i64 gu, .slice ta tl.length tc, .slice ka kl.length kc] 38)).alloc (.cells #[.int .i64 0, .string ⟨#[]⟩, .int .i64 0, .slice none 0 0, .slice none 0 0, .int .i64 0, .int .i64 0, .int .i64 0, .int .i64 0, .int .i64 0, .bool false, .bool false, .slice none 0 0, .int .i64 0] 34) := ⟨_, rfl⟩
  have HW : Hid (W = (w.alloc (.cells #[.int .i64 bu, .int .i64 gu, .slice ta tl.length tc, .slice ka kl.length kc] 38)).alloc (.cells #[.int .i64 0, .string ⟨#[]⟩, .int .i64 0, .slice none 0 0, .slice none 0 0, .int .i64 0, .int .i64 0, .int .i64 0, .int .i64 0, .int .i64 0, .bool false, .bool false, .slice none 0 0, .int .i64 0] 34)) := hW
  have K0 : Hid (Below w.heap.size w W ∧ S4 W w.heap.size (.int .i64 bu) (.int .i64 gu) (.slice ta tl.length tc) (.slice ka kl.length kc) ∧ E14 W (w.heap.size + 1) (.int .i64 0) (.string ⟨#[]⟩) (.int .i64 0) (.slice none 0 0) (.slice none 0 0) (.int .i64 0) (.int .i64 0) (.int .i64 0) (.int .i64 0) (.int .i64 0) (.bool false) (.bool false) (.slice none 0 0) (.int .i64 0) ∧ w.heap.size + 2 ≤ W.heap.size) := by
    rw [hW]
    refine ⟨((Below.refl _ _).alloc (Nat.le_refl _) _).alloc (by simp) _, (S4.new w _ _ _ _ _).keep ((Below.refl _ _).alloc (Nat.le_refl _) _), ?_, by simp⟩
    have := E14.new (w.alloc (.cells #[.int .i64 bu, .int .i64 gu, .slice ta tl.length tc, .slice ka kl.length kc] 38)) (.int .i64 0) (.string ⟨#[]⟩) (.int .i64 0) (.slice none 0 0) (.slice none 0 0) (.int .i64 0) (.int .i64 0) (.int .i64 0) (.int .i64 0) (.int .i64 0) (.bool false) (.bool false) (.slice none 0 0) (.int .i64 0) 34
    simpa using this
  have PB : Hid (storeC bu gu (tl.map Prod.fst) (kl.map Prod.fst) ≠ 0 → peekR bu gu (tl.map Prod.fst) (kl.map Prod.fst) key = (storeC bu gu (tl.map Prod.fst) (kl.map Prod.fst), zeroEnt)) := peekR_bad
  have PN : Hid (storeC bu gu (tl.map Prod.fst) (kl.map Prod.fst) = 0 → (tl.map Prod.fst ++ kl.map Prod.fst).find? (isKey key) = none → peekR bu gu (tl.map Prod.fst) (kl.map Prod.fst) key = (4, zeroEnt)) := peekR_none
  have PS : Hid (∀ x, storeC bu gu (tl.map Prod.fst) (kl.map Prod.fst) = 0 → (tl.map Prod.fst ++ kl.map Prod.fst).find? (isKey key) = some x → peekR bu gu (tl.map Prod.fst) (kl.map Prod.fst) key = (0, x)) := fun x => peekR_some
  have KC : Hid (keyC bu gu (tl.map Prod.fst) (kl.map Prod.fst) key = if storeC bu gu (tl.map Prod.fst) (kl.map Prod.fst) ≠ 0 then storeC bu gu (tl.map Prod.fst) (kl.map Prod.fst) else if (tl.map Prod.fst ++ kl.map Prod.fst).find? (isKey key) = none then 4 else 0) := rfl
  clear hW hto ht hq hl hk hset hts
  generalize peekR bu gu (tl.map Prod.fst) (kl.map Prod.fst) key = pr at *
  obtain ⟨c, hc⟩ : ∃ c, storeC bu gu (tl.map Prod.fst) (kl.map Prod.fst) = c := ⟨_, rfl⟩
  obtain ⟨kcd, hkcd⟩ : ∃ x, keyC bu gu (tl.map Prod.fst) (kl.map Prod.fst) key = x := ⟨_, rfl⟩
  rw [hkcd] at HF KC
  clear hkcd
  rw [hc] at HC HA PB PN PS KC
  clear hc
  generalize hfo : (tl.map Prod.fst ++ kl.map Prod.fst).find? (isKey key) = fo at *
  clear hfo
  generalize tl.length = tn at *
  generalize kl.length = kn at *
  by_cases c0 : c = 0
  rotate_left
  · have ek : kcd = c := by have := KC.out; rw [if_pos c0] at this; exact this
    rw [PB.out c0]
    subst ek
    clear HC PB PN PS HA KC
    go_enter Tryz.func17, Tryz.ntmps17
    go_wp2_with fail
    rw [← HW.out]
    refine (HF.out _ K0.out.1).mono ?_
    rintro r w1 ⟨rfl, hb1⟩
    have K1 : Hid (Below w.heap.size w w1 ∧ S4 w1 w.heap.size (.int .i64 bu) (.int .i64 gu) (.slice ta tn tc) (.slice ka kn kc) ∧ E14 w1 (w.heap.size + 1) (.int .i64 0) (.string ⟨#[]⟩) (.int .i64 0) (.slice none 0 0) (.slice none 0 0) (.int .i64 0) (.int .i64 0) (.int .i64 0) (.int .i64 0) (.int .i64 0) (.bool false) (.bool false) (.slice none 0 0) (.int .i64 0) ∧ w.heap.size + 2 ≤ w1.heap.size) := ⟨K0.out.1.trans (hb1.mono K0.out.1.size), K0.out.2.1.keep hb1, K0.out.2.2.1.keep hb1, Nat.le_trans K0.out.2.2.2 hb1.size⟩
    clear hb1 K0 HW HF
    have z0 := K1.out.2.2.1.c0
    have zf0 := K1.out.2.2.1.fr 0
    have z1 := K1.out.2.2.1.c1
    have zf1 := K1.out.2.2.1.fr 1
    have z2 := K1.out.2.2.1.c2
    have zf2 := K1.out.2.2.1.fr 2
    have z3 := K1.out.2.2.1.c3
    have zf3 := K1.out.2.2.1.fr 3
    have z4 := K1.out.2.2.1.c4
    have zf4 := K1.out.2.2.1.fr 4
    have z5 := K1.out.2.2.1.c5
    have zf5 := K1.out.2.2.1.fr 5
    have z6 := K1.out.2.2.1.c6
    have zf6 := K1.out.2.2.1.fr 6
    have z7 := K1.out.2.2.1.c7
    have zf7 := K1.out.2.2.1.fr 7
    have z8 := K1.out.2.2.1.c8
    have zf8 := K1.out.2.2.1.fr 8
    have z9 := K1.out.2.2.1.c9
    have zf9 := K1.out.2.2.1.fr 9
    have z10 := K1.out.2.2.1.c10
    have zf10 := K1.out.2.2.1.fr 10
    have z11 := K1.out.2.2.1.c11
    have zf11 := K1.out.2.2.1.fr 11
    have z12 := K1.out.2.2.1.c12
    have zf12 := K1.out.2.2.1.fr 12
    have z13 := K1.out.2.2.1.c13
    have zf13 := K1.out.2.2.1.fr 13
    have FIN : Hid (∀ u0 u1 u2 u3 u4 u5 u6 u7 u8 u9 u10 u11 u12 u13, EntRow ((((((((((((((w1.setCell ⟨w.heap.size + 1, 0, none⟩ u0).setCell ⟨w.heap.size + 1, 1, none⟩ u1).setCell ⟨w.heap.size + 1, 2, none⟩ u2).setCell ⟨w.heap.size + 1, 3, none⟩ u3).setCell ⟨w.heap.size + 1, 4, none⟩ u4).setCell ⟨w.heap.size + 1, 5, none⟩ u5).setCell ⟨w.heap.size + 1, 6, none⟩ u6).setCell ⟨w.heap.size + 1, 7, none⟩ u7).setCell ⟨w.heap.size + 1, 8, none⟩ u8).setCell ⟨w.heap.size + 1, 9, none⟩ u9).setCell ⟨w.heap.size + 1, 10, none⟩ u10).setCell ⟨w.heap.size + 1, 11, none⟩ u11).setCell ⟨w.heap.size + 1, 12, none⟩ u12).setCell ⟨w.heap.size + 1, 13, none⟩ u13) w.heap.size zeroEnt zeroR ∧ Below w.heap.size w ((((((((((((((w1.setCell ⟨w.heap.size + 1, 0, none⟩ u0).setCell ⟨w.heap.size + 1, 1, none⟩ u1).setCell ⟨w.heap.size + 1, 2, none⟩ u2).setCell ⟨w.heap.size + 1, 3, none⟩ u3).setCell ⟨w.heap.size + 1, 4, none⟩ u4).setCell ⟨w.heap.size + 1, 5, none⟩ u5).setCell ⟨w.heap.size + 1, 6, none⟩ u6).setCell ⟨w.heap.size + 1, 7, none⟩ u7).setCell ⟨w.heap.size + 1, 8, none⟩ u8).setCell ⟨w.heap.size + 1, 9, none⟩ u9).setCell ⟨w.heap.size + 1, 10, none⟩ u10).setCell ⟨w.heap.size + 1, 11, none⟩ u11).setCell ⟨w.heap.size + 1, 12, none⟩ u12).setCell ⟨w.heap.size + 1, 13, none⟩ u13)) := fun u0 u1 u2 u3 u4 u5 u6 u7 u8 u9 u10 u11 u12 u13 => ⟨zeroRow _ _, ((((((((((((((K1.out.1.setCell (by simp) u0).setCell (by simp) u1).setCell (by simp) u2).setCell (by simp) u3).setCell (by simp) u4).setCell (by simp) u5).setCell (by simp) u6).setCell (by simp) u7).setCell (by simp) u8).setCell (by simp) u9).setCell (by simp) u10).setCell (by simp) u11).setCell (by simp) u12).setCell (by simp) u13)⟩
    go_wp2_with fail
    exact bodyPost_ret (v := .agg #[.int .i64 kcd, .string ⟨#[]⟩, .int .i64 0, .slice none 0 0, .slice none 0 0, .int .i64 0, .int .i64 0, .int .i64 0, .int .i64 0, .int .i64 0, .bool false, .bool false, .slice none 0 0, .int .i64 0]) (by simp [results, Tryz.results17, go_sem, z0, z1, z2, z3, z4, z5, z6, z7, z8, z9, z10, z11, z12, z13]) rfl ⟨⟨zeroR, rfl, (FIN.out _ _ _ _ _ _ _ _ _ _ _ _ _ _).1⟩, (FIN.out _ _ _ _ _ _ _ _ _ _ _ _ _ _).2⟩
  subst c0
  cases fo with
  | none =>
    have ek : kcd = 4 := by have := KC.out; simpa using this
    rw [PN.out rfl rfl]
    subst ek
    clear HC PB PN PS HA KC
    go_enter Tryz.func17, Tryz.ntmps17
    go_wp2_with fail
    rw [← HW.out]
    refine (HF.out _ K0.out.1).mono ?_
    rintro r w1 ⟨rfl, hb1⟩
    have K1 : Hid (Below w.heap.size w w1 ∧ S4 w1 w.heap.size (.int .i64 bu) (.int .i64 gu) (.slice ta tn tc) (.slice ka kn kc) ∧ E14 w1 (w.heap.size + 1) (.int .i64 0) (.string ⟨#[]⟩) (.int .i64 0) (.slice none 0 0) (.slice none 0 0) (.int .i64 0) (.int .i64 0) (.int .i64 0) (.int .i64 0) (.int .i64 0) (.bool false) (.bool false) (.slice none 0 0) (.int .i64 0) ∧ w.heap.size + 2 ≤ w1.heap.size) := ⟨K0.out.1.trans (hb1.mono K0.out.1.size), K0.out.2.1.keep hb1, K0.out.2.2.1.keep hb1, Nat.le_trans K0.out.2.2.2 hb1.size⟩
    clear hb1 K0 HW HF
    have z0 := K1.out.2.2.1.c0
    have zf0 := K1.out.2.2.1.fr 0
    have z1 := K1.out.2.2.1.c1
    have zf1 := K1.out.2.2.1.fr 1
    have z2 := K1.out.2.2.1.c2
    have zf2 := K1.out.2.2.1.fr 2
    have z3 := K1.out.2.2.1.c3
    have zf3 := K1.out.2.2.1.fr 3
    have z4 := K1.out.2.2.1.c4
    have zf4 := K1.out.2.2.1.fr 4
    have z5 := K1.out.2.2.1.c5
    have zf5 := K1.out.2.2.1.fr 5
    have z6 := K1.out.2.2.1.c6
    have zf6 := K1.out.2.2.1.fr 6
    have z7 := K1.out.2.2.1.c7
    have zf7 := K1.out.2.2.1.fr 7
    have z8 := K1.out.2.2.1.c8
    have zf8 := K1.out.2.2.1.fr 8
    have z9 := K1.out.2.2.1.c9
    have zf9 := K1.out.2.2.1.fr 9
    have z10 := K1.out.2.2.1.c10
    have zf10 := K1.out.2.2.1.fr 10
    have z11 := K1.out.2.2.1.c11
    have zf11 := K1.out.2.2.1.fr 11
    have z12 := K1.out.2.2.1.c12
    have zf12 := K1.out.2.2.1.fr 12
    have z13 := K1.out.2.2.1.c13
    have zf13 := K1.out.2.2.1.fr 13
    have FIN : Hid (∀ u0 u1 u2 u3 u4 u5 u6 u7 u8 u9 u10 u11 u12 u13, EntRow ((((((((((((((w1.setCell ⟨w.heap.size + 1, 0, none⟩ u0).setCell ⟨w.heap.size + 1, 1, none⟩ u1).setCell ⟨w.heap.size + 1, 2, none⟩ u2).setCell ⟨w.heap.size + 1, 3, none⟩ u3).setCell ⟨w.heap.size + 1, 4, none⟩ u4).setCell ⟨w.heap.size + 1, 5, none⟩ u5).setCell ⟨w.heap.size + 1, 6, none⟩ u6).setCell ⟨w.heap.size + 1, 7, none⟩ u7).setCell ⟨w.heap.size + 1, 8, none⟩ u8).setCell ⟨w.heap.size + 1, 9, none⟩ u9).setCell ⟨w.heap.size + 1, 10, none⟩ u10).setCell ⟨w.heap.size + 1, 11, none⟩ u11).setCell ⟨w.heap.size + 1, 12, none⟩ u12).setCell ⟨w.heap.size + 1, 13, none⟩ u13) w.heap.size zeroEnt zeroR ∧ Below w.heap.size w ((((((((((((((w1.setCell ⟨w.heap.size + 1, 0, none⟩ u0).setCell ⟨w.heap.size + 1, 1, none⟩ u1).setCell ⟨w.heap.size + 1, 2, none⟩ u2).setCell ⟨w.heap.size + 1, 3, none⟩ u3).setCell ⟨w.heap.size + 1, 4, none⟩ u4).setCell ⟨w.heap.size + 1, 5, none⟩ u5).setCell ⟨w.heap.size + 1, 6, none⟩ u6).setCell ⟨w.heap.size + 1, 7, none⟩ u7).setCell ⟨w.heap.size + 1, 8, none⟩ u8).setCell ⟨w.heap.size + 1, 9, none⟩ u9).setCell ⟨w.heap.size + 1, 10, none⟩ u10).setCell ⟨w.heap.size + 1, 11, none⟩ u11).setCell ⟨w.heap.size + 1, 12, none⟩ u12).setCell ⟨w.heap.size + 1, 13, none⟩ u13)) := fun u0 u1 u2 u3 u4 u5 u6 u7 u8 u9 u10 u11 u12 u13 => ⟨zeroRow _ _, ((((((((((((((K1.out.1.setCell (by simp) u0).setCell (by simp) u1).setCell (by simp) u2).setCell (by simp) u3).setCell (by simp) u4).setCell (by simp) u5).setCell (by simp) u6).setCell (by simp) u7).setCell (by simp) u8).setCell (by simp) u9).setCell (by simp) u10).setCell (by simp) u11).setCell (by simp) u12).setCell (by simp) u13)⟩
    go_wp2_with fail
    exact bodyPost_ret (v := .agg #[.int .i64 4, .string ⟨#[]⟩, .int .i64 0, .slice none 0 0, .slice none 0 0, .int .i64 0, .int .i64 0, .int .i64 0, .int .i64 0, .int .i64 0, .bool false, .bool false, .slice none 0 0, .int .i64 0]) (by simp [results, Tryz.results17, go_sem, z0, z1, z2, z3, z4, z5, z6, z7, z8, z9, z10, z11, z12, z13]) rfl ⟨⟨zeroR, rfl, (FIN.out _ _ _ _ _ _ _ _ _ _ _ _ _ _).1⟩, (FIN.out _ _ _ _ _ _ _ _ _ _ _ _ _ _).2⟩
  | some x =>
    have ek : kcd = 0 := by have := KC.out; simpa using this
    rw [PS.out x rfl rfl]
    subst ek
    have HC1 := HC.out rfl
    have HA1 : Hid (∀ v, FindH (hdl2 ta ka tl kl) key v → ∃ p, v = .pointer (some p) ∧ ∀ X, Below w.heap.size w X → Calls Tryz.prog 71 #[.pointer (some p)] X fun e w' => (∃ r, e = .returned (entV x r) ∧ EntRow w' X.heap.size x r) ∧ Below X.heap.size X w') := HA.out rfl x rfl
    clear HC PB PN PS HA KC
    go_enter Tryz.func17, Tryz.ntmps17
    go_wp2_with fail
    rw [← HW.out]
    refine (HF.out _ K0.out.1).mono ?_
    rintro r w1 ⟨rfl, hb1⟩
    have K1 : Hid (Below w.heap.size w w1 ∧ S4 w1 w.heap.size (.int .i64 bu) (.int .i64 gu) (.slice ta tn tc) (.slice ka kn kc) ∧ E14 w1 (w.heap.size + 1) (.int .i64 0) (.string ⟨#[]⟩) (.int .i64 0) (.slice none 0 0) (.slice none 0 0) (.int .i64 0) (.int .i64 0) (.int .i64 0) (.int .i64 0) (.int .i64 0) (.bool false) (.bool false) (.slice none 0 0) (.int .i64 0) ∧ w.heap.size + 2 ≤ w1.heap.size) := ⟨K0.out.1.trans (hb1.mono K0.out.1.size), K0.out.2.1.keep hb1, K0.out.2.2.1.keep hb1, Nat.le_trans K0.out.2.2.2 hb1.size⟩
    clear hb1 K0 HW HF
    have q0 := K1.out.2.1.c0
    have q1 := K1.out.2.1.c1
    have q2 := K1.out.2.1.c2
    have q3 := K1.out.2.1.c3
    go_wp2_with fail
    refine (HC1 _ K1.out.1).mono ?_
    rintro r w2 ⟨⟨v1, v2, rfl, C2⟩, hb2⟩
    have K2 : Hid (Below w.heap.size w w2 ∧ E14 w2 (w.heap.size + 1) (.int .i64 0) (.string ⟨#[]⟩) (.int .i64 0) (.slice none 0 0) (.slice none 0 0) (.int .i64 0) (.int .i64 0) (.int .i64 0) (.int .i64 0) (.int .i64 0) (.bool false) (.bool false) (.slice none 0 0) (.int .i64 0) ∧ w.heap.size + 2 ≤ w2.heap.size) := ⟨K1.out.1.trans (hb2.mono K1.out.1.size), K1.out.2.2.1.keep hb2, Nat.le_trans K1.out.2.2.2 hb2.size⟩
    clear hb2 K1 q0 q1 q2 q3 HC1
    go_wp2_with fail
    refine C2.mono ?_
    rintro r w3 ⟨⟨v, rfl, hv⟩, hb3⟩
    have K3 : Hid (Below w.heap.size w w3 ∧ E14 w3 (w.heap.size + 1) (.int .i64 0) (.string ⟨#[]⟩) (.int .i64 0) (.slice none 0 0) (.slice none 0 0) (.int .i64 0) (.int .i64 0) (.int .i64 0) (.int .i64 0) (.int .i64 0) (.bool false) (.bool false) (.slice none 0 0) (.int .i64 0) ∧ w.heap.size + 2 ≤ w3.heap.size) := ⟨K2.out.1.trans (hb3.mono K2.out.1.size), K2.out.2.1.keep hb3, Nat.le_trans K2.out.2.2 hb3.size⟩
    obtain ⟨p, rfl, C3⟩ := HA1.out v hv
    have C4 := C3 w3 K3.out.1
    clear hb3 K2 C2 hv HA1 C3
    go_wp2_with fail
    refine C4.mono ?_
    rintro e w4 ⟨⟨r, rfl, hrow⟩, hb4⟩
    have K4 : Hid (Below w.heap.size w w4 ∧ E14 w4 (w.heap.size + 1) (.int .i64 0) (.string ⟨#[]⟩) (.int .i64 0) (.slice none 0 0) (.slice none 0 0) (.int .i64 0) (.int .i64 0) (.int .i64 0) (.int .i64 0) (.int .i64 0) (.bool false) (.bool false) (.slice none 0 0) (.int .i64 0) ∧ w.heap.size + 2 ≤ w3.heap.size) := ⟨K3.out.1.trans (hb4.mono K3.out.1.size), K3.out.2.1.keep hb4, K3.out.2.2⟩
    have HRW : Hid (EntRow w4 w3.heap.size x r) := hrow
    clear hb4 K3 C4 hrow
    unfold entV entW
    have z0 := K4.out.2.1.c0
    have zf0 := K4.out.2.1.fr 0
    have z1 := K4.out.2.1.c1
    have zf1 := K4.out.2.1.fr 1
    have z2 := K4.out.2.1.c2
    have zf2 := K4.out.2.1.fr 2
    have z3 := K4.out.2.1.c3
    have zf3 := K4.out.2.1.fr 3
    have z4 := K4.out.2.1.c4
    have zf4 := K4.out.2.1.fr 4
    have z5 := K4.out.2.1.c5
    have zf5 := K4.out.2.1.fr 5
    have z6 := K4.out.2.1.c6
    have zf6 := K4.out.2.1.fr 6
    have z7 := K4.out.2.1.c7
    have zf7 := K4.out.2.1.fr 7
    have z8 := K4.out.2.1.c8
    have zf8 := K4.out.2.1.fr 8
    have z9 := K4.out.2.1.c9
    have zf9 := K4.out.2.1.fr 9
    have z10 := K4.out.2.1.c10
    have zf10 := K4.out.2.1.fr 10
    have z11 := K4.out.2.1.c11
    have zf11 := K4.out.2.1.fr 11
    have z12 := K4.out.2.1.c12
    have zf12 := K4.out.2.1.fr 12
    have z13 := K4.out.2.1.c13
    have zf13 := K4.out.2.1.fr 13
    have hle := K4.out.2.2
    have FIN : Hid (∀ u0 u1 u2 u3 u4 u5 u6 u7 u8 u9 u10 u11 u12 u13, EntRow ((((((((((((((w4.setCell ⟨w.heap.size + 1, 0, none⟩ u0).setCell ⟨w.heap.size + 1, 1, none⟩ u1).setCell ⟨w.heap.size + 1, 2, none⟩ u2).setCell ⟨w.heap.size + 1, 3, none⟩ u3).setCell ⟨w.heap.size + 1, 4, none⟩ u4).setCell ⟨w.heap.size + 1, 5, none⟩ u5).setCell ⟨w.heap.size + 1, 6, none⟩ u6).setCell ⟨w.heap.size + 1, 7, none⟩ u7).setCell ⟨w.heap.size + 1, 8, none⟩ u8).setCell ⟨w.heap.size + 1, 9, none⟩ u9).setCell ⟨w.heap.size + 1, 10, none⟩ u10).setCell ⟨w.heap.size + 1, 11, none⟩ u11).setCell ⟨w.heap.size + 1, 12, none⟩ u12).setCell ⟨w.heap.size + 1, 13, none⟩ u13) w.heap.size x r ∧ Below w.heap.size w ((((((((((((((w4.setCell ⟨w.heap.size + 1, 0, none⟩ u0).setCell ⟨w.heap.size + 1, 1, none⟩ u1).setCell ⟨w.heap.size + 1, 2, none⟩ u2).setCell ⟨w.heap.size + 1, 3, none⟩ u3).setCell ⟨w.heap.size + 1, 4, none⟩ u4).setCell ⟨w.heap.size + 1, 5, none⟩ u5).setCell ⟨w.heap.size + 1, 6, none⟩ u6).setCell ⟨w.heap.size + 1, 7, none⟩ u7).setCell ⟨w.heap.size + 1, 8, none⟩ u8).setCell ⟨w.heap.size + 1, 9, none⟩ u9).setCell ⟨w.heap.size + 1, 10, none⟩ u10).setCell ⟨w.heap.size + 1, 11, none⟩ u11).setCell ⟨w.heap.size + 1, 12, none⟩ u12).setCell ⟨w.heap.size + 1, 13, none⟩ u13)) := fun u0 u1 u2 u3 u4 u5 u6 u7 u8 u9 u10 u11 u12 u13 => ⟨((((((((((((((HRW.out.off1 u0 (by omega)).off1 u1 (by omega)).off1 u2 (by omega)).off1 u3 (by omega)).off1 u4 (by omega)).off1 u5 (by omega)).off1 u6 (by omega)).off1 u7 (by omega)).off1 u8 (by omega)).off1 u9 (by omega)).off1 u10 (by omega)).off1 u11 (by omega)).off1 u12 (by omega)).off1 u13 (by omega)).lower (by omega), ((((((((((((((K4.out.1.setCell (by simp) u0).setCell (by simp) u1).setCell (by simp) u2).setCell (by simp) u3).setCell (by simp) u4).setCell (by simp) u5).setCell (by simp) u6).setCell (by simp) u7).setCell (by simp) u8).setCell (by simp) u9).setCell (by simp) u10).setCell (by simp) u11).setCell (by simp) u12).setCell (by simp) u13)⟩
    clear HRW hle
    go_wp2_with fail
    exact bodyPost_ret (v := .agg #[.int .i64 0, .string x.key, .int .i64 x.st, .slice r.ha x.hs.length r.hc, .slice r.ba x.bl.length r.bc, .int .i64 x.t, .int .i64 x.g, .int .i64 x.l, .int .i64 x.s, .int .i64 x.e, .bool x.b1, .bool x.b2, .slice r.ta x.ts.length r.tc, .int .i64 x.pins]) (by simp [results, Tryz.results17, go_sem, z0, z1, z2, z3, z4, z5, z6, z7, z8, z9, z10, z11, z12, z13]) rfl ⟨⟨r, rfl, (FIN.out _ _ _ _ _ _ _ _ _ _ _ _ _ _).1⟩, (FIN.out _ _ _ _ _ _ _ _ _ _ _ _ _ _).2⟩
end Go.Proofs.YtmidfgjnaebfiaaGreatDoor
/-
  The law of StoreFault.
-/
namespace Go.Proofs.YtmidfgjnaebfiaaGreatDoor
open Go.ChangeShapes Go.WideShapes Go.ChangeAt Go.RowKit Go.Sort
theorem ok_of {w : World} {ta ka : Option Addr} {tl kl : List (Ent × EntR)} (h : StoArg w ta ka tl kl) (hf : StoFit tl kl) : ∀ x ∈ (tl ++ kl).map Prod.fst, EntOk x := by
  intro x hx
  obtain ⟨q, hq, rfl⟩ := List.mem_map.1 hx
  rcases List.mem_append.1 hq with hq | hq
  · have s := h.ts q hq
    exact ⟨s.key, (hf.tf q hq).h, s.bl, s.tl⟩
  · have s := h.ks q hq
    exact ⟨s.key, (hf.kf q hq).h, s.bl, s.tl⟩
theorem ok_map {tl kl a b : List (Ent × EntR)} (e1 : a.map Prod.fst = tl.map Prod.fst) (e2 : b.map Prod.fst = kl.map Prod.fst) (h : ∀ x ∈ (tl ++ kl).map Prod.fst, EntOk x) : ∀ q ∈ a ++ b, EntOk q.1 := fun q hq => h q.1 (by rw [List.map_append, ← e1, ← e2, ← List.map_append]; exact List.mem_map_of_mem hq)
theorem specSto_new (w : World) (bu gu : Int) (tl kl : List (Ent × EntR)) (G1 G2 : Nat) (hok : ∀ x ∈ (tl ++ kl).map Prod.fst, EntOk x) (hf : StoFit tl kl) (h : StoNew w G1 G2 tl kl) :
    Calls Tryz.prog 54 #[.agg #[.int .i64 bu, .int .i64 gu, .slice (some ⟨G1, 0, none⟩) tl.length tl.length, .slice (some ⟨G2, 0, none⟩) kl.length kl.length]] w fun r w' => r = .returned (.int .i64 (storeC bu gu (tl.map Prod.fst) (kl.map Prod.fst))) ∧ Below w.heap.size w w' := by
  obtain ⟨a, b, e1, e2, m⟩ := h
  have l1 := len_map e1
  have l2 := len_map e2
  rw [← l1, ← l2, ← e1, ← e2]
  exact specSto_any w bu gu _ _ _ _ a b (by rw [l1]; exact hf.tn) (by rw [l2]; exact hf.kn) (ok_map e1 e2 hok) m.t.in m.k.in
theorem implSto_new (w : World) (bu gu : Int) (tl kl : List (Ent × EntR)) (G1 G2 : Nat) (hset : SetIs w) (hok : ∀ x ∈ (tl ++ kl).map Prod.fst, EntOk x) (hf : StoFit tl kl) (h : StoNew w G1 G2 tl kl) :
    Calls Tryz.prog 53 #[.agg #[.int .i64 bu, .int .i64 gu, .slice (some ⟨G1, 0, none⟩) tl.length tl.length, .slice (some ⟨G2, 0, none⟩) kl.length kl.length]] w fun r w' => r = .returned (.int .i64 (storeC bu gu (tl.map Prod.fst) (kl.map Prod.fst))) ∧ Below w.heap.size w w' := by
  obtain ⟨a, b, e1, e2, m⟩ := h
  have l1 := len_map e1
  have l2 := len_map e2
  rw [← l1, ← l2, ← e1, ← e2]
  exact implSto_any w bu gu _ _ _ _ a b hset (by rw [l1]; exact hf.tn) (by rw [l2]; exact hf.kn) (ok_map e1 e2 hok) m.t.in m.k.in
end Go.Proofs.YtmidfgjnaebfiaaGreatDoor
/-
  PeekEntry of a store that a law handed over.
-/
namespace Go.Proofs.YtmidfgjnaebfiaaGreatDoor
open Go.ChangeShapes Go.WideShapes Go.ChangeAt Go.RowKit Go.Sort
theorem szE_tags {left : Int} {key : ByteArray} {hs : List Hdr} {bs : List UInt8} {ts : List ByteArray} (hl : left ≤ 1048576) (h : ¬ szE left key hs bs ts < 0) : ∀ t ∈ ts, t.size ≤ 1048576 := by
  unfold szE at h
  split at h
  · exact absurd (by decide) h
  split at h
  · exact absurd (by decide) h
  split at h
  · exact absurd (by decide) h
  split at h
  · exact absurd (by decide) h
  rename_i c1 c2 c3 c4
  have r2 := szHL_le c2
  exact (szTL_room (l := ts) (left := szHL (left - (key.size : Int)) hs - (bs.length : Int)) (by omega) c4).2
theorem szEs_tags : ∀ (l : List (Ent × EntR)) (c : Int), c ≤ 1048576 → ¬ szEs c l < 0 → ∀ q ∈ l, ∀ t ∈ q.1.ts, t.size ≤ 1048576
  | [], _, _, _ => by simp
  | q :: l, c, hc, h => by
    unfold szEs at h
    by_cases d : szE c q.1.key q.1.hs q.1.bl q.1.ts < 0
    · rw [if_pos d] at h; exact absurd (by decide) h
    · rw [if_neg d] at h
      intro p hp
      rcases List.mem_cons.1 hp with rfl | hp
      · exact szE_tags hc d
      · exact szEs_tags l _ (by have := (szE_room hc d).2.2.2.2; omega) h p hp
theorem szEL_tags {l : List (Ent × EntR)} {left : Int} (hc : left ≤ 1048576) (h : ¬ szEL left l < 0) : ∀ q ∈ l, ∀ t ∈ q.1.ts, t.size ≤ 1048576 := by
  unfold szEL at h
  by_cases d : left - (l.length : Int) < 0
  · rw [if_pos d] at h; omega
  · rw [if_neg d] at h
    exact szEs_tags l _ (by omega) h
theorem szSt_tags {left : Int} {tl kl : List (Ent × EntR)} (hl : left ≤ 1048576) (h : ¬ szSt left tl kl < 0) : ∀ x ∈ (tl ++ kl).map Prod.fst, ∀ t ∈ x.ts, t.size ≤ 1048576 := by
  unfold szSt at h
  by_cases c1 : szEL left tl < 0
  · rw [if_pos c1] at h; omega
  rw [if_neg c1] at h
  by_cases c2 : szEL (szEL left tl) kl < 0
  · rw [if_pos c2] at h; omega
  have r1 := szEL_room hl c1
  have t1 := szEL_tags hl c1
  have t2 := szEL_tags (Int.le_trans r1.1 hl) c2
  intro x hx
  obtain ⟨q, hq, rfl⟩ := List.mem_map.1 hx
  rcases List.mem_append.1 hq with hq | hq
  · exact t1 q hq
  · exact t2 q hq
theorem fit_all {tl kl a b : List (Ent × EntR)} (e1 : a.map Prod.fst = tl.map Prod.fst) (e2 : b.map Prod.fst = kl.map Prod.fst) (hf : StoFit tl kl) : ∀ q ∈ a ++ b, EntFit q.1 := fun q hq => by
  rcases List.mem_append.1 hq with hq | hq
  · exact fit_map e1 hf.tf q hq
  · exact fit_map e2 hf.kf q hq
theorem peek_fit {bu gu : Int} {tl kl : List (Ent × EntR)} {key : ByteArray} (hf : StoFit tl kl) : EntFit (peekR bu gu (tl.map Prod.fst) (kl.map Prod.fst) key).2 := by
  have z : EntFit zeroEnt := ⟨by decide, by decide, by decide⟩
  unfold peekR
  split
  · exact z
  · split
    · exact z
    · rename_i x hx
      have hm := List.mem_of_find?_eq_some hx
      rw [← List.map_append] at hm
      obtain ⟨q, hq, rfl⟩ := List.mem_map.1 hm
      exact fit_all rfl rfl hf q hq
theorem specPeek_new (w : World) (bu gu : Int) (tl kl : List (Ent × EntR)) (G1 G2 : Nat) (key : ByteArray) (hok : ∀ x ∈ (tl ++ kl).map Prod.fst, EntOk x) (hf : StoFit tl kl) (h : StoNew w G1 G2 tl kl) :
    Calls Tryz.prog 15 #[.agg #[.int .i64 bu, .int .i64 gu, .slice (some ⟨G1, 0, none⟩) tl.length tl.length, .slice (some ⟨G2, 0, none⟩) kl.length kl.length], .string key] w fun e w' => PeekOk (peekR bu gu (tl.map Prod.fst) (kl.map Prod.fst) key).1 (peekR bu gu (tl.map Prod.fst) (kl.map Prod.fst) key).2 w.heap.size e w' ∧ Below w.heap.size w w' := by
  obtain ⟨a, b, e1, e2, m⟩ := h
  have l1 := len_map e1
  have l2 := len_map e2
  rw [← l1, ← l2, ← e1, ← e2]
  exact specPeek_any w bu gu _ _ _ _ a b key (by rw [l1]; exact hf.tn) (by rw [l2]; exact hf.kn) (ok_map e1 e2 hok) (fit_all e1 e2 hf) m.t.in m.k.in
theorem implPeek_new (w : World) (bu gu : Int) (tl kl : List (Ent × EntR)) (G1 G2 : Nat) (key : ByteArray) (hset : SetIs w) (hok : ∀ x ∈ (tl ++ kl).map Prod.fst, EntOk x) (hf : StoFit tl kl) (hts : ∀ x ∈ (tl ++ kl).map Prod.fst, ∀ t ∈ x.ts, t.size ≤ 1048576) (h : StoNew w G1 G2 tl kl) :
    Calls Tryz.prog 17 #[.agg #[.int .i64 bu, .int .i64 gu, .slice (some ⟨G1, 0, none⟩) tl.length tl.length, .slice (some ⟨G2, 0, none⟩) kl.length kl.length], .string key] w fun e w' => PeekOk (peekR bu gu (tl.map Prod.fst) (kl.map Prod.fst) key).1 (peekR bu gu (tl.map Prod.fst) (kl.map Prod.fst) key).2 w.heap.size e w' ∧ Below w.heap.size w w' := by
  obtain ⟨a, b, e1, e2, m⟩ := h
  have l1 := len_map e1
  have l2 := len_map e2
  rw [← l1, ← l2, ← e1, ← e2]
  exact implPeek_any w bu gu _ _ _ _ a b key hset (by rw [l1]; exact hf.tn) (by rw [l2]; exact hf.kn) (ok_map e1 e2 hok) (fun q hq => hts q.1 (by rw [List.map_append, ← e1, ← e2, ← List.map_append]; exact List.mem_map_of_mem hq)) m.t.in m.k.in
end Go.Proofs.YtmidfgjnaebfiaaGreatDoor
/-
  A right store that has a key, copied by the model; or a code.
-/
namespace Go.Proofs.YtmidfgjnaebfiaaGreatDoor
open Go.ChangeShapes Go.WideShapes Go.ChangeAt Go.RowKit Go.Sort
/-- What l8Ask hands back. -/
def AskOk (c : Int) (bu gu : Int) (tl kl : List Ent) (base : Nat) (e : Ending) (w' : World) : Prop :=
  (c ≠ 0 ∧ e = .returned (.tuple #[.agg #[.int .i64 0, .int .i64 0, .slice none 0 0, .slice none 0 0], .int .i64 c])) ∨ (c = 0 ∧ ∃ a1 k1 n1 a2 k2 n2 m1 m2, e = .returned (.tuple #[.agg #[.int .i64 bu, .int .i64 gu, .slice a1 n1 k1, .slice a2 n2 k2], .int .i64 0]) ∧ m1.map Prod.fst = tl ∧ m2.map Prod.fst = kl ∧ StoO w' base (.slice a1 n1 k1) (.slice a2 n2 k2) m1 m2)
set_option maxRecDepth 100000 in
set_option maxHeartbeats 16000000 in
theorem l8Ask_at (w : World) (B : Nat) (bu gu : Int) (ta ka : Option Addr) (tc kc : Nat) (tl kl : List (Ent × EntR)) (key : ByteArray) (hc : S4 w B (.int .i64 bu) (.int .i64 gu) (.slice ta tl.length tc) (.slice ka kl.length kc)) (hl : tl.length ≤ 1048576) (hk : kl.length ≤ 1048576) (hto : ∀ q ∈ tl ++ kl, EntOk q.1) (hft : ∀ q ∈ tl ++ kl, EntFit q.1) (ht : EntsIn w ta tl) (hq : EntsIn w ka kl) :
    Calls Tryz.prog 77 #[.pointer (some ⟨B, 0, none⟩), .string key] w fun e w' => AskOk (peekR bu gu (tl.map Prod.fst) (kl.map Prod.fst) key).1 bu gu (tl.map Prod.fst) (kl.map Prod.fst) w.heap.size e w' ∧ Below w.heap.size w w' := by
  have HF : Hid (∀ X, Below w.heap.size w X → Calls Tryz.prog 54 #[.agg #[.int .i64 bu, .int .i64 gu, .slice ta tl.length tc, .slice ka kl.length kc]] X fun r w' => r = .returned (.int .i64 (storeC bu gu (tl.map Prod.fst) (kl.map Prod.fst))) ∧ Below X.heap.size X w') := fun X hb => specSto_any X bu gu ta ka tc kc tl kl hl hk hto (ht.keep hb) (hq.keep hb)
  have HP : Hid (storeC bu gu (tl.map Prod.fst) (kl.map Prod.fst) = 0 → ∀ X, Below w.heap.size w X → Calls Tryz.prog 68 #[.pointer (some ⟨B, 0, none⟩), .string key] X fun e w' => ((∃ x r, (tl.map Prod.fst ++ kl.map Prod.fst).find? (isKey key) = some x ∧ e = .returned (.tuple #[entV x r, .bool true])) ∨ ((tl.map Prod.fst ++ kl.map Prod.fst).find? (isKey key) = none ∧ e = .returned (.tuple #[entV zeroEnt zeroR, .bool false]))) ∧ Below X.heap.size X w') := fun h0 X hX => by
    have s := hc.keep hX
    refine (l8Peek_at X B key ta ka tc kc tl kl s.c2 s.c3 (by have := (storeC_zero h0).2.1; rw [List.length_map, List.length_map] at this; omega) (fun q hq' => ⟨(hft q hq').h, (hft q hq').b, (hft q hq').t⟩) (ht.keep hX) (hq.keep hX)).mono ?_
    rintro e w' ⟨⟨x, r, h1, h2, _⟩ | h1, hb⟩
    · exact ⟨.inl ⟨x, r, h1, h2⟩, hb⟩
    · exact ⟨.inr h1, hb⟩
  have HC : Hid (∀ X, Below w.heap.size w X → Calls Tryz.prog 87 #[.pointer (some ⟨B, 0, none⟩)] X fun e w' => (∃ a1 k1 n1 a2 k2 n2 m1 m2, e = .returned (.agg #[.int .i64 bu, .int .i64 gu, .slice a1 n1 k1, .slice a2 n2 k2]) ∧ m1.map Prod.fst = tl.map Prod.fst ∧ m2.map Prod.fst = kl.map Prod.fst ∧ StoO w' X.heap.size (.slice a1 n1 k1) (.slice a2 n2 k2) m1 m2) ∧ Below X.heap.size X w') := fun X hX => by
    have s := hc.keep hX
    refine (l8Copy_at X B bu gu ta ka tc kc tl kl ⟨s.c0, s.c1, s.c2, s.c3⟩ s.lt hl hk (fun q h => hft q (List.mem_append.2 (.inl h))) (fun q h => hft q (List.mem_append.2 (.inr h))) (ht.keep hX) (hq.keep hX)).mono ?_
    rintro e w' ⟨⟨v1, v2, m1, m2, rfl, q1, q2, o⟩, hb⟩
    obtain ⟨a1, k1, rfl, _⟩ := row_form o.t.own
    obtain ⟨a2, k2, rfl, _⟩ := row_form o.k.own
    exact ⟨⟨a1, k1, _, a2, k2, _, m1, m2, rfl, q1, q2, o⟩, hb⟩
  obtain ⟨W, hW⟩ : ∃ W, W = w.alloc (.cells #[.int .i64 0, .int .i64 0, .slice none 0 0, .slice none 0 0] 38) := ⟨_, rfl⟩
  have HW : Hid (W = w.alloc (.cells #[.int .i64 0, .int .i64 0, .slice none 0 0, .slice none 0 0] 38)) := hW
  have K0 : Hid (Below w.heap.size w W ∧ S4 W w.heap.size (.int .i64 0) (.int .i64 0) (.slice none 0 0) (.slice none 0 0)) := by
    rw [hW]; exact ⟨(Below.refl _ _).alloc (Nat.le_refl _) _, S4.new w _ _ _ _ _⟩
  have HS : Hid (∀ X, Below w.heap.size w X → S4 X B (.int .i64 bu) (.int .i64 gu) (.slice ta tl.length tc) (.slice ka kl.length kc)) := fun X hX => hc.keep hX
  have PB := peekR_bad (bu := bu) (gu := gu) (tl := tl.map Prod.fst) (kl := kl.map Prod.fst) (key := key)
  have PN := peekR_none (bu := bu) (gu := gu) (tl := tl.map Prod.fst) (kl := kl.map Prod.fst) (key := key)
  have PS : ∀ x, _ := fun x => peekR_some (bu := bu) (gu := gu) (tl := tl.map Prod.fst) (kl := kl.map Prod.fst) (key := key) (x := x)
  have HPB : Hid _ := PB
  have HPN : Hid _ := PN
  have HPS : Hid _ := PS
  have e0 := (HS.out W K0.out.1).c0
  have e1 := (HS.out W K0.out.1).c1
  have e2 := (HS.out W K0.out.1).c2
  have e3 := (HS.out W K0.out.1).c3
  rw [hW] at e0 e1 e2 e3
  clear hW hc hto hft ht hq hl hk PB PN PS HS
  generalize storeC bu gu (tl.map Prod.fst) (kl.map Prod.fst) = sc at *
  generalize peekR bu gu (tl.map Prod.fst) (kl.map Prod.fst) key = pr at *
  generalize tl.length = tn at *
  generalize kl.length = kn at *
  go_enter Tryz.func77, Tryz.ntmps77
  go_wp2_with fail
  rw [← HW.out]
  refine (HF.out _ K0.out.1).mono ?_
  rintro r0 w1 ⟨rfl, hb1⟩
  have K1 : Hid (Below w.heap.size w w1 ∧ S4 w1 w.heap.size (.int .i64 0) (.int .i64 0) (.slice none 0 0) (.slice none 0 0)) := ⟨K0.out.1.trans (hb1.mono K0.out.1.size), K0.out.2.keep hb1⟩
  clear K0 HW hb1 HF e0 e1 e2 e3
  by_cases cs : sc = 0
  · subst cs
    clear HPB
    go_wp2_with fail
    refine (HP.out (by trivial) _ K1.out.1).mono ?_
    rintro r0 w2 ⟨hcase, hb2⟩
    rcases hcase with ⟨x, r, hx, rfl⟩ | ⟨hx, rfl⟩
    · have hp := HPS.out x (by trivial) hx
      subst hp
      unfold entV entW
      obtain ⟨V2, hV2⟩ : ∃ V, V = w2.alloc (.cells (entW x r).toArray 32) := ⟨_, rfl⟩
      have HV2 : Hid (V2 = w2.alloc (.cells (entW x r).toArray 32)) := hV2
      have K2 : Hid (Below w.heap.size w V2 ∧ S4 V2 w.heap.size (.int .i64 0) (.int .i64 0) (.slice none 0 0) (.slice none 0 0)) := by
        have a2 : Below w2.heap.size w2 V2 := by rw [hV2]; exact (Below.refl _ _).alloc (Nat.le_refl _) _
        have b2 := K1.out.1.trans (hb2.mono K1.out.1.size)
        exact ⟨b2.trans (a2.mono b2.size), (K1.out.2.keep hb2).keep a2⟩
      unfold entW at HV2
      clear hV2 K1 hb2 HP HPN HPS hx
      go_wp2_with fail
      rw [← HV2.out]
      refine (HC.out _ K2.out.1).mono ?_
      rintro r0 w3 ⟨⟨a1, k1, n1, a2, k2, n2, m1, m2, rfl, q1, q2, o⟩, hb3⟩
      have s3 := K2.out.2.keep hb3
      have z0 := s3.c0
      have z1 := s3.c1
      have z2 := s3.c2
      have z3 := s3.c3
      have zf0 := s3.fr 0
      have zf1 := s3.fr 1
      have zf2 := s3.fr 2
      have zf3 := s3.fr 3
      have HFIN : Hid (∀ u0 u1 u2 u3, (∃ m1 m2, m1.map Prod.fst = tl.map Prod.fst ∧ m2.map Prod.fst = kl.map Prod.fst ∧ StoO ((((w3.setCell ⟨w.heap.size, 0, none⟩ u0).setCell ⟨w.heap.size, 1, none⟩ u1).setCell ⟨w.heap.size, 2, none⟩ u2).setCell ⟨w.heap.size, 3, none⟩ u3) w.heap.size (.slice a1 n1 k1) (.slice a2 n2 k2) m1 m2) ∧ Below w.heap.size w ((((w3.setCell ⟨w.heap.size, 0, none⟩ u0).setCell ⟨w.heap.size, 1, none⟩ u1).setCell ⟨w.heap.size, 2, none⟩ u2).setCell ⟨w.heap.size, 3, none⟩ u3)) := fun u0 u1 u2 u3 => by
        have hlt := K2.out.2.lt
        refine ⟨⟨m1, m2, q1, q2, ((((o.off1 _ hlt).off1 _ hlt).off1 _ hlt).off1 _ hlt).lower (Nat.le_of_lt hlt)⟩, ?_⟩
        exact ((((K2.out.1.trans (hb3.mono K2.out.1.size)).setCell (Nat.le_refl _) _).setCell (Nat.le_refl _) _).setCell (Nat.le_refl _) _).setCell (Nat.le_refl _) _
      clear s3 hb3 o q1 q2 K2 HC HV2
      go_wp2_with fail
      refine bodyPost_ret (v := .tuple #[.agg #[.int .i64 bu, .int .i64 gu, .slice a1 n1 k1, .slice a2 n2 k2], .int .i64 0]) (by simp [results, Tryz.results77, go_sem, z0, z1, z2, z3]) rfl ?_
      obtain ⟨⟨m1, m2, q1, q2, o⟩, b⟩ := HFIN.out (.int .i64 bu) (.int .i64 gu) (.slice a1 n1 k1) (.slice a2 n2 k2)
      exact ⟨.inr ⟨rfl, a1, k1, n1, a2, k2, n2, m1, m2, rfl, q1, q2, o⟩, b⟩
    · have hp := HPN.out (by trivial) hx
      subst hp
      unfold entV entW zeroEnt zeroR
      simp only [List.length_nil]
      have s2 := (K1.out.2.keep hb2).keep ((Below.refl w2.heap.size w2).alloc (Nat.le_refl _) (.cells #[.string ⟨#[]⟩, .int .i64 0, .slice none 0 0, .slice none 0 0, .int .i64 0, .int .i64 0, .int .i64 0, .int .i64 0, .int .i64 0, .bool false, .bool false, .slice none 0 0, .int .i64 0] 32))
      have HBB : Hid (Below w.heap.size w (w2.alloc (.cells #[.string ⟨#[]⟩, .int .i64 0, .slice none 0 0, .slice none 0 0, .int .i64 0, .int .i64 0, .int .i64 0, .int .i64 0, .int .i64 0, .bool false, .bool false, .slice none 0 0, .int .i64 0] 32))) := (K1.out.1.trans (hb2.mono K1.out.1.size)).alloc (by have := hb2.size; have := K1.out.1.size; omega) _
      have z0 := s2.c0
      have z1 := s2.c1
      have z2 := s2.c2
      have z3 := s2.c3
      have zf0 := s2.fr 0
      have zf1 := s2.fr 1
      have zf2 := s2.fr 2
      have zf3 := s2.fr 3
      clear s2 K1 hb2 HP HPN HPS HC hx
      go_wp2_with fail
      refine bodyPost_ret (v := .tuple #[.agg #[.int .i64 0, .int .i64 0, .slice none 0 0, .slice none 0 0], .int .i64 4]) (by simp [results, Tryz.results77, go_sem, z0, z1, z2, z3]) rfl ?_
      exact ⟨.inl ⟨by decide, rfl⟩, (((HBB.out.setCell (Nat.le_refl _) _).setCell (Nat.le_refl _) _).setCell (Nat.le_refl _) _).setCell (Nat.le_refl _) _⟩
  · have hp := HPB.out cs
    subst hp
    have z0 := K1.out.2.c0
    have z1 := K1.out.2.c1
    have z2 := K1.out.2.c2
    have z3 := K1.out.2.c3
    have zf0 := K1.out.2.fr 0
    have zf1 := K1.out.2.fr 1
    have zf2 := K1.out.2.fr 2
    have zf3 := K1.out.2.fr 3
    have HB1 : Hid (Below w.heap.size w w1) := K1.out.1
    clear K1 HP HPN HPS HPB HC
    go_wp2_with fail
    refine bodyPost_ret (v := .tuple #[.agg #[.int .i64 0, .int .i64 0, .slice none 0 0, .slice none 0 0], .int .i64 sc]) (by simp [results, Tryz.results77, go_sem, z0, z1, z2, z3]) rfl ?_
    exact ⟨.inl ⟨cs, rfl⟩, (((HB1.out.setCell (Nat.le_refl _) _).setCell (Nat.le_refl _) _).setCell (Nat.le_refl _) _).setCell (Nat.le_refl _) _⟩
end Go.Proofs.YtmidfgjnaebfiaaGreatDoor
/-
  DropEntry, by the model.
-/
namespace Go.Proofs.YtmidfgjnaebfiaaGreatDoor
open Go.ChangeShapes Go.WideShapes Go.ChangeAt Go.RowKit Go.Sort
/-- A store that is handed back, with its code. -/
def StoRes (c bu gu : Int) (tl kl : List Ent) (base : Nat) (e : Ending) (w' : World) : Prop :=
  ∃ a1 k1 n1 a2 k2 n2 m1 m2, e = .returned (.agg #[.int .i64 c, .int .i64 bu, .int .i64 gu, .slice a1 n1 k1, .slice a2 n2 k2]) ∧ m1.map Prod.fst = tl ∧ m2.map Prod.fst = kl ∧ StoO w' base (.slice a1 n1 k1) (.slice a2 n2 k2) m1 m2
theorem S5.low {w w' : World} {b B : Nat} {v0 v1 v2 v3 v4 : Value} (k : S5 w b v0 v1 v2 v3 v4) (hb : Below B w w') (h : b < B) : S5 w' b v0 v1 v2 v3 v4 :=
  ⟨by rw [hb.cell (p := ⟨b, 0, none⟩) h]; exact k.c0, by rw [hb.cell (p := ⟨b, 1, none⟩) h]; exact k.c1, by rw [hb.cell (p := ⟨b, 2, none⟩) h]; exact k.c2, by rw [hb.cell (p := ⟨b, 3, none⟩) h]; exact k.c3, by rw [hb.cell (p := ⟨b, 4, none⟩) h]; exact k.c4, fun o => by rw [hb.frozen (p := ⟨b, o, none⟩) h]; exact k.fr o, Nat.lt_of_lt_of_le k.lt hb.size⟩
theorem EntsO.none (w : World) (base : Nat) : EntsO w base (.slice none 0 0) [] := ⟨OwnE.nil w base, fun q hq => by simp at hq, by simp [foot, Value.ownBlock]⟩
theorem StoO.none (w : World) (base : Nat) : StoO w base (.slice none 0 0) (.slice none 0 0) [] [] := ⟨.none w base, .none w base, fun b hb => by simp [foot, Value.ownBlock] at hb⟩
theorem offKey_map (key : ByteArray) (m : List (Ent × EntR)) : (offKey key m).map Prod.fst = (m.map Prod.fst).filter fun x => !isKey key x := by
  unfold offKey
  rw [List.filter_map]
  rfl
def dropC (bu gu : Int) (tl kl : List Ent) (key : ByteArray) : Int := (peekR bu gu tl kl key).1
set_option maxRecDepth 100000 in
set_option maxHeartbeats 16000000 in
theorem specDropE_any (w : World) (bu gu : Int) (ta ka : Option Addr) (tc kc : Nat) (tl kl : List (Ent × EntR)) (key : ByteArray) (hl : tl.length ≤ 1048576) (hk : kl.length ≤ 1048576) (hto : ∀ q ∈ tl ++ kl, EntOk q.1) (hft : ∀ q ∈ tl ++ kl, EntFit q.1) (ht : EntsIn w ta tl) (hq : EntsIn w ka kl) :
    Calls Tryz.prog 39 #[.agg #[.int .i64 bu, .int .i64 gu, .slice ta tl.length tc, .slice ka kl.length kc], .string key] w fun e w' => (if (peekR bu gu (tl.map Prod.fst) (kl.map Prod.fst) key).1 = 0 then StoRes 0 bu gu ((tl.map Prod.fst).filter fun x => !isKey key x) ((kl.map Prod.fst).filter fun x => !isKey key x) w.heap.size e w' else StoRes (peekR bu gu (tl.map Prod.fst) (kl.map Prod.fst) key).1 0 0 [] [] w.heap.size e w') ∧ Below w.heap.size w w' := by
  obtain ⟨W, hW⟩ : ∃ W, W = (w.alloc (.cells #[.int .i64 bu, .int .i64 gu, .slice ta tl.length tc, .slice ka kl.length kc] 38)).alloc (.cells #[.int .i64 0, .int .i64 0, .int .i64 0, .slice none 0 0, .slice none 0 0] 46) := ⟨_, rfl⟩
  have HW : Hid (W = (w.alloc (.cells #[.int .i64 bu, .int .i64 gu, .slice ta tl.length tc, .slice ka kl.length kc] 38)).alloc (.cells #[.int .i64 0, .int .i64 0, .int .i64 0, .slice none 0 0, .slice none 0 0] 46)) := hW
  have K0 : Hid (Below w.heap.size w W ∧ S4 W w.heap.size (.int .i64 bu) (.int .i64 gu) (.slice ta tl.length tc) (.slice ka kl.length kc) ∧ S5 W (w.heap.size + 1) (.int .i64 0) (.int .i64 0) (.int .i64 0) (.slice none 0 0) (.slice none 0 0) ∧ w.heap.size + 2 ≤ W.heap.size) := by
    rw [hW]
    refine ⟨((Below.refl _ _).alloc (Nat.le_refl _) _).alloc (by simp) _, (S4.new w _ _ _ _ _).keep ((Below.refl _ _).alloc (Nat.le_refl _) _), ?_, by simp⟩
    have := S5.new (w.alloc (.cells #[.int .i64 bu, .int .i64 gu, .slice ta tl.length tc, .slice ka kl.length kc] 38)) (.int .i64 0) (.int .i64 0) (.int .i64 0) (.slice none 0 0) (.slice none 0 0) 46
    simpa using this
  have CA : Hid (Calls Tryz.prog 77 #[.pointer (some ⟨w.heap.size, 0, none⟩), .string key] W fun e w' => AskOk (peekR bu gu (tl.map Prod.fst) (kl.map Prod.fst) key).1 bu gu (tl.map Prod.fst) (kl.map Prod.fst) W.heap.size e w' ∧ Below W.heap.size W w') := l8Ask_at W w.heap.size bu gu ta ka tc kc tl kl key K0.out.2.1 hl hk hto hft (ht.keep K0.out.1) (hq.keep K0.out.1)
  have HLN : Hid (tl.length ≤ 1048576 ∧ kl.length ≤ 1048576) := ⟨hl, hk⟩
  clear hW hl hk hto hft ht hq
  generalize (peekR bu gu (tl.map Prod.fst) (kl.map Prod.fst) key).1 = c at *
  go_enter Tryz.func39, Tryz.ntmps39
  go_wp2_with fail
  rw [← HW.out]
  refine CA.out.mono ?_
  rintro r0 w1 ⟨hask, hb1⟩
  clear CA HW
  rcases hask with ⟨hc, rfl⟩ | ⟨rfl, a1, k1, n1, a2, k2, n2, m1, m2, rfl, q1, q2, o⟩
  · have aV : Below w1.heap.size w1 (w1.alloc (.cells #[.int .i64 0, .int .i64 0, .slice none 0 0, .slice none 0 0] 38)) := (Below.refl _ _).alloc (Nat.le_refl _) _
    have s5 := (K0.out.2.2.1.keep hb1).keep aV
    have b1 := K0.out.1.trans (hb1.mono K0.out.1.size)
    have HB : Hid (Below w.heap.size w (w1.alloc (.cells #[.int .i64 0, .int .i64 0, .slice none 0 0, .slice none 0 0] 38))) := b1.trans (aV.mono b1.size)
    have z0 := s5.c0
    have z1 := s5.c1
    have z2 := s5.c2
    have z3 := s5.c3
    have z4 := s5.c4
    have zf0 := s5.fr 0
    have zf1 := s5.fr 1
    have zf2 := s5.fr 2
    have zf3 := s5.fr 3
    have zf4 := s5.fr 4
    clear s5 aV hb1 b1 K0 HLN
    go_wp2_with fail
    refine bodyPost_ret (v := .agg #[.int .i64 c, .int .i64 0, .int .i64 0, .slice none 0 0, .slice none 0 0]) (by simp [results, Tryz.results39, go_sem, z0, z1, z2, z3, z4]) rfl ?_
    refine ⟨by (try rw [if_neg hc]); exact ⟨_, _, _, _, _, _, [], [], rfl, rfl, rfl, .none _ _⟩, ?_⟩
    exact ((((HB.out.setCell (by simp) _).setCell (by simp) _).setCell (by simp) _).setCell (by simp) _).setCell (by simp) _
  · obtain ⟨V1, hV1⟩ : ∃ V, V = w1.alloc (.cells #[.int .i64 bu, .int .i64 gu, .slice a1 n1 k1, .slice a2 n2 k2] 38) := ⟨_, rfl⟩
    have HV1 : Hid (V1 = w1.alloc (.cells #[.int .i64 bu, .int .i64 gu, .slice a1 n1 k1, .slice a2 n2 k2] 38)) := hV1
    have aV : Below w1.heap.size w1 V1 := by rw [hV1]; exact (Below.refl _ _).alloc (Nat.le_refl _) _
    have sV : S4 V1 w1.heap.size (.int .i64 bu) (.int .i64 gu) (.slice a1 n1 k1) (.slice a2 n2 k2) := by rw [hV1]; exact S4.new w1 _ _ _ _ _
    have b1 := K0.out.1.trans (hb1.mono K0.out.1.size)
    have ln1 : m1.length ≤ 1048576 := by have := congrArg List.length q1; rw [List.length_map, List.length_map] at this; have := HLN.out.1; omega
    have ln2 : m2.length ≤ 1048576 := by have := congrArg List.length q2; rw [List.length_map, List.length_map] at this; have := HLN.out.2; omega
    have CD : Hid _ := l8Drop_at V1 w1.heap.size W.heap.size bu gu (.slice a1 n1 k1) (.slice a2 n2 k2) m1 m2 key sV (o.below aV) (by have := hb1.size; have := aV.size; omega) (fun h => by have := o.t.lt h; omega) (fun h => by have := o.k.lt h; omega) ln1 ln2
    have K1 : Hid (Below w.heap.size w V1 ∧ S5 V1 (w.heap.size + 1) (.int .i64 0) (.int .i64 0) (.int .i64 0) (.slice none 0 0) (.slice none 0 0) ∧ w.heap.size + 2 ≤ W.heap.size ∧ W.heap.size ≤ w1.heap.size) := ⟨b1.trans (aV.mono b1.size), (K0.out.2.2.1.keep hb1).keep aV, K0.out.2.2.2, hb1.size⟩
    have HM : Hid (m1.map Prod.fst = tl.map Prod.fst ∧ m2.map Prod.fst = kl.map Prod.fst) := ⟨q1, q2⟩
    clear hV1 aV sV b1 hb1 K0 HLN o q1 q2 ln1 ln2
    go_wp2_with fail
    rw [← HV1.out]
    refine Calls.mono CD.out ?_
    rintro e0 w2 ⟨rfl, ⟨u1, u2, s2, o2, _, _⟩, hb2⟩
    obtain ⟨c1, d1, rfl, _⟩ := row_form o2.t.own
    obtain ⟨c2, d2, rfl, _⟩ := row_form o2.k.own
    have hs5 : S5 w2 (w.heap.size + 1) (.int .i64 0) (.int .i64 0) (.int .i64 0) (.slice none 0 0) (.slice none 0 0) := K1.out.2.1.low hb2 (by have := K1.out.2.2; omega)
    have HB : Hid (Below w.heap.size w w2) := K1.out.1.trans (hb2.mono (by have := K1.out.2.2; omega))
    have HO : Hid (∃ p1 p2, p1.map Prod.fst = ((tl.map Prod.fst).filter fun x => !isKey key x) ∧ p2.map Prod.fst = ((kl.map Prod.fst).filter fun x => !isKey key x) ∧ StoO w2 W.heap.size (.slice c1 (offKey key m1).length d1) (.slice c2 (offKey key m2).length d2) p1 p2) := ⟨offKey key m1, offKey key m2, by rw [offKey_map, HM.out.1], by rw [offKey_map, HM.out.2], o2⟩
    have HWB : Hid (w.heap.size + 1 < W.heap.size) := by show _ < _; have := K1.out.2.2; omega
    have z0 := hs5.c0
    have z1 := hs5.c1
    have z2 := hs5.c2
    have z3 := hs5.c3
    have z4 := hs5.c4
    have zf0 := hs5.fr 0
    have zf1 := hs5.fr 1
    have zf2 := hs5.fr 2
    have zf3 := hs5.fr 3
    have zf4 := hs5.fr 4
    have y0 := s2.c0
    have y1 := s2.c1
    have y2 := s2.c2
    have y3 := s2.c3
    generalize (offKey key m1).length = f1 at *
    generalize (offKey key m2).length = f2 at *
    clear hs5 s2 o2 hb2 K1 CD HV1 HM
    go_wp2_with fail
    refine bodyPost_ret (v := .agg #[.int .i64 0, .int .i64 bu, .int .i64 gu, .slice c1 f1 d1, .slice c2 f2 d2]) (by simp [results, Tryz.results39, go_sem, z0, z1, z2, z3, z4]) rfl ?_
    obtain ⟨p1, p2, q1, q2, o⟩ := HO.out
    have hlt := HWB.out
    refine ⟨by (try rw [if_pos rfl]); exact ⟨_, _, _, _, _, _, p1, p2, rfl, q1, q2, (((((o.off1 _ hlt).off1 _ hlt).off1 _ hlt).off1 _ hlt).off1 _ hlt).lower (Nat.le_trans (Nat.le_succ _) (Nat.le_of_lt hlt))⟩, ?_⟩
    exact ((((HB.out.setCell (by simp) _).setCell (by simp) _).setCell (by simp) _).setCell (by simp) _).setCell (by simp) _
end Go.Proofs.YtmidfgjnaebfiaaGreatDoor
/-
  PinEntry, by the model.
-/
namespace Go.Proofs.YtmidfgjnaebfiaaGreatDoor
open Go.ChangeShapes Go.WideShapes Go.ChangeAt Go.RowKit Go.Sort
theorem StoLV.off1 {w : World} {base : Nat} {v1 v2 : Value} {l1 l2 : List (Ent × EntR)} (h : StoLV w base v1 v2 l1 l2) {b i : Nat} (u : Value) (hb : b < base) : StoLV (w.setCell ⟨b, i, none⟩ u) base v1 v2 l1 l2 :=
  h.out (Out.set w b i u) (fun c hc e => by simp at hc; subst hc; have := h.t.ge e; omega) (fun c hc e => by simp at hc; subst hc; have := h.k.ge e; omega)
theorem StoLV.none (w : World) (base : Nat) : StoLV w base (.slice none 0 0) (.slice none 0 0) [] [] := (StoO.none w base).lv
theorem StoAns.mk {A : SAns} {base b : Nat} {a1 a2 : Option Addr} {n1 k1 n2 k2 : Nat} {w' : World} {m1 m2 : List (Ent × EntR)} (h : StoLV w' b (.slice a1 n1 k1) (.slice a2 n2 k2) m1 m2) (hb : base ≤ b) (e1 : m1.map Prod.fst = A.t) (e2 : m2.map Prod.fst = A.k) : StoAns A base (.returned (.agg #[.int .i64 A.c, .int .i64 A.bu, .int .i64 A.gu, .slice a1 n1 k1, .slice a2 n2 k2])) w' :=
  ⟨⟨a1, k1, n1, a2, k2, n2⟩, rfl, RSto.mk (r := ⟨a1, k1, n1, a2, k2, n2⟩) e1 e2 (h.lower hb)⟩
def badA (c : Int) : SAns := ⟨c, 0, 0, [], []⟩
theorem StoAns.bad (c : Int) (base : Nat) (w' : World) : StoAns (badA c) base (.returned (.agg #[.int .i64 c, .int .i64 0, .int .i64 0, .slice none 0 0, .slice none 0 0])) w' := StoAns.mk (A := badA c) (StoLV.none w' base) (Nat.le_refl _) rfl rfl
theorem StoAns.got {c bu gu : Int} {t k : List Ent} {base b : Nat} {a1 a2 : Option Addr} {n1 k1 n2 k2 : Nat} {w' : World} {m1 m2 : List (Ent × EntR)} (h : StoLV w' b (.slice a1 n1 k1) (.slice a2 n2 k2) m1 m2) (hb : base ≤ b) (e1 : m1.map Prod.fst = t) (e2 : m2.map Prod.fst = k) : StoAns ⟨c, bu, gu, t, k⟩ base (.returned (.agg #[.int .i64 c, .int .i64 bu, .int .i64 gu, .slice a1 n1 k1, .slice a2 n2 k2])) w' := StoAns.mk (A := ⟨c, bu, gu, t, k⟩) h hb e1 e2
theorem StoAns.of {A B : SAns} {base : Nat} {e : Ending} {w' : World} (h : StoAns B base e w') (he : A = B) : StoAns A base e w' := he ▸ h
open Classical in
noncomputable def pinA (bu gu : Int) (tl kl : List Ent) (key : ByteArray) (by' : Int) : SAns :=
  if (peekR bu gu tl kl key).1 ≠ 0 then badA (peekR bu gu tl kl key).1 else
  if ¬ (0 ≤ (peekR bu gu tl kl key).2.pins + by' ∧ (peekR bu gu tl kl key).2.pins + by' ≤ 20) then badA 3 else
  ⟨0, bu, gu, turnE (isKey key) (pinBy by') tl, turnE (isKey key) (pinBy by') kl⟩
theorem peekR_zero {bu gu : Int} {tl kl : List Ent} {key : ByteArray} (h : (peekR bu gu tl kl key).1 = 0) : storeC bu gu tl kl = 0 ∧ (tl ++ kl).find? (isKey key) = some (peekR bu gu tl kl key).2 := by
  by_cases hs : storeC bu gu tl kl = 0
  · refine ⟨hs, ?_⟩
    cases hf : (tl ++ kl).find? (isKey key) with
    | none => rw [peekR_none hs hf] at h; exact absurd h (by decide)
    | some x => rw [peekR_some hs hf]
  · rw [peekR_bad hs] at h; exact absurd h hs
theorem storeC_nd {bu gu : Int} {tl kl : List Ent} (h : storeC bu gu tl kl = 0) : NdK (tl ++ kl) := by
  have := (storeC_zero h).2.2.2.1
  unfold dupE at this
  simpa [NdK] using this
theorem storeC_ent {bu gu : Int} {tl kl : List Ent} (h : storeC bu gu tl kl = 0) : ∀ x ∈ tl ++ kl, entC x = 0 := faultE_zero (storeC_zero h).2.2.1
theorem key_one {key : ByteArray} {L : List Ent} {x y : Ent} (hn : NdK L) (hx : L.find? (isKey key) = some x) (hy : y ∈ L) (hk : isKey key y = true) : y = x := by
  have hx1 := List.mem_of_find?_eq_some hx
  have hx2 := List.find?_some hx
  have e := isKey_eq hx2 hk
  unfold NdK keysE at hn
  obtain ⟨i, hi, rfl⟩ := List.mem_iff_getElem.1 hx1
  obtain ⟨j, hj, rfl⟩ := List.mem_iff_getElem.1 hy
  have := (List.getElem_inj (xs := L.map fun x => x.key.toList) (h₀ := by simpa using hi) (h₁ := by simpa using hj) hn).1 (by simpa using e)
  subst this
  rfl
set_option maxHeartbeats 1000000 in
theorem l1In_any (x a b : Int) (w : World) : Calls Tryz.prog 102 #[.int .i64 x, .int .i64 a, .int .i64 b] w fun e w' => e = .returned (.bool (decide (a ≤ x) && decide (x ≤ b))) ∧ w' = w := by
  by_cases h1 : a ≤ x
  · by_cases h2 : x ≤ b
    · go_enter Tryz.func102, Tryz.ntmps102
      go_wp2_with fail
      go_ret
      exact ⟨by simp; omega, rfl⟩
    · go_enter Tryz.func102, Tryz.ntmps102
      go_wp2_with fail
      go_ret
      exact ⟨by simp [h2], rfl⟩
  · go_enter Tryz.func102, Tryz.ntmps102
    go_wp2_with fail
    go_ret
    exact ⟨by simp; omega, rfl⟩
set_option maxRecDepth 100000 in
set_option maxHeartbeats 16000000 in
theorem specPin_any (w : World) (bu gu by' : Int) (ta ka : Option Addr) (tc kc : Nat) (tl kl : List (Ent × EntR)) (key : ByteArray) (hl : tl.length ≤ 1048576) (hk : kl.length ≤ 1048576) (hto : ∀ q ∈ tl ++ kl, EntOk q.1) (hft : ∀ q ∈ tl ++ kl, EntFit q.1) (ht : EntsIn w ta tl) (hq : EntsIn w ka kl) :
    Calls Tryz.prog 37 #[.agg #[.int .i64 bu, .int .i64 gu, .slice ta tl.length tc, .slice ka kl.length kc], .string key, .int .i64 by'] w fun e w' => StoAns (pinA bu gu (tl.map Prod.fst) (kl.map Prod.fst) key by') w.heap.size e w' ∧ Below w.heap.size w w' := by
  obtain ⟨W, hW⟩ : ∃ W, W = (w.alloc (.cells #[.int .i64 bu, .int .i64 gu, .slice ta tl.length tc, .slice ka kl.length kc] 38)).alloc (.cells #[.int .i64 0, .int .i64 0, .int .i64 0, .slice none 0 0, .slice none 0 0] 46) := ⟨_, rfl⟩
  have HW : Hid (W = (w.alloc (.cells #[.int .i64 bu, .int .i64 gu, .slice ta tl.length tc, .slice ka kl.length kc] 38)).alloc (.cells #[.int .i64 0, .int .i64 0, .int .i64 0, .slice none 0 0, .slice none 0 0] 46)) := hW
  have K0 : Hid (Below w.heap.size w W ∧ S4 W w.heap.size (.int .i64 bu) (.int .i64 gu) (.slice ta tl.length tc) (.slice ka kl.length kc) ∧ S5 W (w.heap.size + 1) (.int .i64 0) (.int .i64 0) (.int .i64 0) (.slice none 0 0) (.slice none 0 0) ∧ w.heap.size + 2 ≤ W.heap.size) := by
    rw [hW]
    refine ⟨((Below.refl _ _).alloc (Nat.le_refl _) _).alloc (by simp) _, (S4.new w _ _ _ _ _).keep ((Below.refl _ _).alloc (Nat.le_refl _) _), ?_, by simp⟩
    have := S5.new (w.alloc (.cells #[.int .i64 bu, .int .i64 gu, .slice ta tl.length tc, .slice ka kl.length kc] 38)) (.int .i64 0) (.int .i64 0) (.int .i64 0) (.slice none 0 0) (.slice none 0 0) 46
    simpa using this
  have CA : Hid (Calls Tryz.prog 77 #[.pointer (some ⟨w.heap.size, 0, none⟩), .string key] W fun e w' => AskOk (peekR bu gu (tl.map Prod.fst) (kl.map Prod.fst) key).1 bu gu (tl.map Prod.fst) (kl.map Prod.fst) W.heap.size e w' ∧ Below W.heap.size W w') := l8Ask_at W w.heap.size bu gu ta ka tc kc tl kl key K0.out.2.1 hl hk hto hft (ht.keep K0.out.1) (hq.keep K0.out.1)
  have HFT : Hid (∀ q ∈ tl ++ kl, EntFit q.1) := hft
  obtain ⟨A, hA⟩ : ∃ A, pinA bu gu (tl.map Prod.fst) (kl.map Prod.fst) key by' = A := ⟨_, rfl⟩
  rw [hA]
  unfold pinA at hA
  have HA : Hid (_ = A) := hA
  clear hW hl hk hto hft ht hq hA
  obtain ⟨P, hP⟩ : ∃ P, peekR bu gu (tl.map Prod.fst) (kl.map Prod.fst) key = P := ⟨_, rfl⟩
  have HP : Hid (peekR bu gu (tl.map Prod.fst) (kl.map Prod.fst) key = P) := hP
  rw [hP] at CA HA
  clear hP
  obtain ⟨c, x⟩ := P
  simp only at CA HA
  go_enter Tryz.func37, Tryz.ntmps37
  go_wp2_with fail
  rw [← HW.out]
  refine CA.out.mono ?_
  rintro r0 w1 ⟨hask, hb1⟩
  clear CA HW
  rcases hask with ⟨hc, rfl⟩ | ⟨rfl, a1, k1, n1, a2, k2, n2, m1, m2, rfl, q1, q2, o⟩
  · have aV : Below w1.heap.size w1 (w1.alloc (.cells #[.int .i64 0, .int .i64 0, .slice none 0 0, .slice none 0 0] 38)) := (Below.refl _ _).alloc (Nat.le_refl _) _
    have s5 := (K0.out.2.2.1.keep hb1).keep aV
    have b1 := K0.out.1.trans (hb1.mono K0.out.1.size)
    have HB : Hid (Below w.heap.size w (w1.alloc (.cells #[.int .i64 0, .int .i64 0, .slice none 0 0, .slice none 0 0] 38))) := b1.trans (aV.mono b1.size)
    have HAe : Hid (A = badA c) := by have := HA.out; rw [if_pos hc] at this; exact this.symm
    have z0 := s5.c0
    have z1 := s5.c1
    have z2 := s5.c2
    have z3 := s5.c3
    have z4 := s5.c4
    have zf0 := s5.fr 0
    have zf1 := s5.fr 1
    have zf2 := s5.fr 2
    have zf3 := s5.fr 3
    have zf4 := s5.fr 4
    clear s5 aV hb1 b1 K0 HA HP HFT
    go_wp2_with fail
    refine bodyPost_ret (v := .agg #[.int .i64 c, .int .i64 0, .int .i64 0, .slice none 0 0, .slice none 0 0]) (by simp [results, Tryz.results37, go_sem, z0, z1, z2, z3, z4]) rfl ?_
    exact ⟨(StoAns.bad _ _ _).of HAe.out, ((((HB.out.setCell (by simp) _).setCell (by simp) _).setCell (by simp) _).setCell (by simp) _).setCell (by simp) _⟩
  · obtain ⟨V1, hV1⟩ : ∃ V, V = w1.alloc (.cells #[.int .i64 bu, .int .i64 gu, .slice a1 n1 k1, .slice a2 n2 k2] 38) := ⟨_, rfl⟩
    have HV1 : Hid (V1 = w1.alloc (.cells #[.int .i64 bu, .int .i64 gu, .slice a1 n1 k1, .slice a2 n2 k2] 38)) := hV1
    have aV : Below w1.heap.size w1 V1 := by rw [hV1]; exact (Below.refl _ _).alloc (Nat.le_refl _) _
    have sV : S4 V1 w1.heap.size (.int .i64 bu) (.int .i64 gu) (.slice a1 n1 k1) (.slice a2 n2 k2) := by rw [hV1]; exact S4.new w1 _ _ _ _ _
    have b1 := K0.out.1.trans (hb1.mono K0.out.1.size)
    obtain ⟨hst, hfi⟩ := peekR_zero (bu := bu) (gu := gu) (tl := tl.map Prod.fst) (kl := kl.map Prod.fst) (key := key) (by rw [HP.out])
    rw [HP.out] at hfi
    simp only at hfi
    have hln := (storeC_zero hst).2.1
    have ln1 : m1.length = (tl.map Prod.fst).length := by have := congrArg List.length q1; rw [List.length_map] at this; exact this
    have ln2 : m2.length = (kl.map Prod.fst).length := by have := congrArg List.length q2; rw [List.length_map] at this; exact this
    have oV := (o.below aV).lv
    obtain ⟨hn1, in1⟩ := slice_len oV.t
    obtain ⟨hn2, in2⟩ := slice_len oV.k
    have hft2 : ∀ q ∈ m1 ++ m2, q.1.hs.length ≤ 1048576 ∧ q.1.bl.length ≤ 1048576 ∧ q.1.ts.length ≤ 1048576 := fun q hq => by
      have : q.1 ∈ (tl ++ kl).map Prod.fst := by rw [List.map_append, ← q1, ← q2, ← List.map_append]; exact List.mem_map_of_mem hq
      obtain ⟨p, hp, e⟩ := List.mem_map.1 this
      have f := HFT.out p hp
      rw [← e]
      exact ⟨f.h, f.b, f.t⟩
    have CP : Hid (Calls Tryz.prog 68 #[.pointer (some ⟨w1.heap.size, 0, none⟩), .string key] V1 fun e w' => (∃ r : EntR, e = .returned (.tuple #[.agg #[.string x.key, .int .i64 x.st, .slice r.ha x.hs.length r.hc, .slice r.ba x.bl.length r.bc, .int .i64 x.t, .int .i64 x.g, .int .i64 x.l, .int .i64 x.s, .int .i64 x.e, .bool x.b1, .bool x.b2, .slice r.ta x.ts.length r.tc, .int .i64 x.pins], .bool true])) ∧ Below V1.heap.size V1 w') := by
      have c2 := sV.c2
      have c3 := sV.c3
      rw [hn1] at c2
      rw [hn2] at c3
      refine (l8Peek_at V1 w1.heap.size key a1 a2 k1 k2 m1 m2 c2 c3 (by omega) hft2 in1 in2).mono ?_
      rintro e w' ⟨hh, hb⟩
      rw [q1, q2, hfi] at hh
      rcases hh with ⟨y, r, ey, er, _⟩ | ⟨ey, _⟩
      · obtain rfl := Option.some.inj ey
        exact ⟨⟨r, er⟩, hb⟩
      · exact absurd ey (by simp)
    have K1 : Hid (Below w.heap.size w V1 ∧ S5 V1 (w.heap.size + 1) (.int .i64 0) (.int .i64 0) (.int .i64 0) (.slice none 0 0) (.slice none 0 0) ∧ S4 V1 w1.heap.size (.int .i64 bu) (.int .i64 gu) (.slice a1 n1 k1) (.slice a2 n2 k2) ∧ w.heap.size + 2 ≤ W.heap.size ∧ W.heap.size ≤ w1.heap.size) := ⟨b1.trans (aV.mono b1.size), (K0.out.2.2.1.keep hb1).keep aV, sV, K0.out.2.2.2, hb1.size⟩
    have HO : Hid (StoLV V1 W.heap.size (.slice a1 n1 k1) (.slice a2 n2 k2) m1 m2 ∧ w1.heap.size ∉ fp (.slice a1 n1 k1) m1 ∧ w1.heap.size ∉ fp (.slice a2 n2 k2) m2) := ⟨oV, fun h => by have := o.t.lt h; omega, fun h => by have := o.k.lt h; omega⟩
    have HM : Hid (m1.map Prod.fst = tl.map Prod.fst ∧ m2.map Prod.fst = kl.map Prod.fst ∧ m1.length ≤ 40 ∧ m2.length ≤ 40 ∧ NdK ((m1 ++ m2).map Prod.fst) ∧ (∀ q ∈ m1 ++ m2, isKey key q.1 = true → q.1 = x)) := by
      have nd := storeC_nd hst
      rw [← q1, ← q2, ← List.map_append] at nd hfi
      exact ⟨q1, q2, by omega, by omega, nd, fun q hq hk => key_one nd hfi (List.mem_map_of_mem hq) hk⟩
    have HXP : Hid (0 ≤ x.pins ∧ x.pins ≤ 20) := entC_pins (storeC_ent hst x (List.mem_of_find?_eq_some hfi))
    have HA2 : Hid (A = if ¬ (0 ≤ x.pins + by' ∧ x.pins + by' ≤ 20) then badA 3 else ⟨0, bu, gu, turnE (isKey key) (pinBy by') (tl.map Prod.fst), turnE (isKey key) (pinBy by') (kl.map Prod.fst)⟩) := by have := HA.out; simp only [ne_eq, not_true_eq_false, if_false] at this; exact this.symm
    clear hV1 aV sV b1 hb1 K0 o q1 q2 ln1 ln2 hn1 hn2 in1 in2 hft2 oV hst hfi hln HA HFT HP
    go_wp2_with fail
    rw [← HV1.out]
    refine Calls.mono CP.out ?_
    rintro e0 w2 ⟨⟨r, rfl⟩, hb2⟩
    obtain ⟨V2, hV2⟩ : ∃ V, V = w2.alloc (.cells #[.string x.key, .int .i64 x.st, .slice r.ha x.hs.length r.hc, .slice r.ba x.bl.length r.bc, .int .i64 x.t, .int .i64 x.g, .int .i64 x.l, .int .i64 x.s, .int .i64 x.e, .bool x.b1, .bool x.b2, .slice r.ta x.ts.length r.tc, .int .i64 x.pins] 32) := ⟨_, rfl⟩
    have HV2 : Hid (V2 = w2.alloc (.cells #[.string x.key, .int .i64 x.st, .slice r.ha x.hs.length r.hc, .slice r.ba x.bl.length r.bc, .int .i64 x.t, .int .i64 x.g, .int .i64 x.l, .int .i64 x.s, .int .i64 x.e, .bool x.b1, .bool x.b2, .slice r.ta x.ts.length r.tc, .int .i64 x.pins] 32)) := hV2
    have aV2 : Below w2.heap.size w2 V2 := by rw [hV2]; exact (Below.refl _ _).alloc (Nat.le_refl _) _
    have bV : Below V1.heap.size V1 V2 := hb2.trans (aV2.mono hb2.size)
    have y12 : V2.cell? ⟨w2.heap.size, 12, none⟩ = some (.int .i64 x.pins) := by rw [hV2]; simp
    have K2 : Hid (Below w.heap.size w V2 ∧ S5 V2 (w.heap.size + 1) (.int .i64 0) (.int .i64 0) (.int .i64 0) (.slice none 0 0) (.slice none 0 0) ∧ S4 V2 w1.heap.size (.int .i64 bu) (.int .i64 gu) (.slice a1 n1 k1) (.slice a2 n2 k2) ∧ StoLV V2 W.heap.size (.slice a1 n1 k1) (.slice a2 n2 k2) m1 m2) := ⟨K1.out.1.trans (bV.mono K1.out.1.size), K1.out.2.1.keep bV, K1.out.2.2.1.keep bV, HO.out.1.below bV⟩
    have L1 : Hid (∀ X, Calls Tryz.prog 102 #[.int .i64 by', .int .i64 (-20), .int .i64 20] X fun e w' => e = .returned (.bool (decide (-20 ≤ by') && decide (by' ≤ 20))) ∧ w' = X) := fun X => l1In_any by' (-20) 20 X
    clear hV2 aV2 bV hb2 CP HV1
    obtain ⟨xp0, xp1⟩ := HXP.out
    by_cases c1 : -20 ≤ by' ∧ by' ≤ 20
    · have ew : IntKind.i64.wrap (x.pins + by') = x.pins + by' := by unfold IntKind.wrap; simp [IntKind.signed, IntKind.bits]; omega
      have L2 : Hid (∀ X, Calls Tryz.prog 102 #[.int .i64 (x.pins + by'), .int .i64 0, .int .i64 20] X fun e w' => e = .returned (.bool (decide (0 ≤ x.pins + by') && decide (x.pins + by' ≤ 20))) ∧ w' = X) := fun X => l1In_any _ 0 20 X
      have d1 : (decide (-20 ≤ by') && decide (by' ≤ 20)) = true := by simp [c1]
      rw [d1] at L1
      by_cases c2 : 0 ≤ x.pins + by' ∧ x.pins + by' ≤ 20
      · have d2 : (decide (0 ≤ x.pins + by') && decide (x.pins + by' ≤ 20)) = true := by simp [c2]
        rw [d2] at L2
        have HAe : Hid (A = ⟨0, bu, gu, turnE (isKey key) (pinBy by') (tl.map Prod.fst), turnE (isKey key) (pinBy by') (kl.map Prod.fst)⟩) := by have := HA2.out; rw [if_neg (by simpa using c2)] at this; exact this
        have CD : Hid _ := l8Pin_at V2 w1.heap.size W.heap.size bu gu by' a1 a2 n1 k1 n2 k2 m1 m2 key K2.out.2.2.1 K2.out.2.2.2 HO.out.2.1 HO.out.2.2 K1.out.2.2.2.2 HM.out.2.2.1 HM.out.2.2.2.1 HM.out.2.2.2.2.1 (fun q hq hk => by rw [HM.out.2.2.2.2.2 q hq hk]; exact c2)
        clear c1 c2 d1 d2 HA2 HO xp0 xp1 HXP
        generalize x.pins = xp at *
        rw [HV2.out] at y12
        go_wp2_with fail
        refine (L1.out _).mono ?_
        rintro e0 X1 ⟨rfl, rfl⟩
        go_wp2_with fail
        refine (L2.out _).mono ?_
        rintro e0 X1 ⟨rfl, rfl⟩
        go_wp2_with fail
        rw [← HV2.out]
        refine Calls.mono CD.out ?_
        rintro e0 w3 ⟨rfl, s3, o3, hb3⟩
        have hs5 : S5 w3 (w.heap.size + 1) (.int .i64 0) (.int .i64 0) (.int .i64 0) (.slice none 0 0) (.slice none 0 0) := K2.out.2.1.low hb3 (by have := K1.out.2.2.2.1; omega)
        have HB : Hid (Below w.heap.size w w3) := K2.out.1.trans (hb3.mono (by have := K1.out.2.2.2.1; omega))
        have HO3 : Hid (StoLV w3 W.heap.size (.slice a1 n1 k1) (.slice a2 n2 k2) (turnM (isKey key) (pinBy by') m1) (turnM (isKey key) (pinBy by') m2)) := o3
        have HWB : Hid (w.heap.size + 1 < W.heap.size) := by show _ < _; have := K1.out.2.2.2.1; omega
        have z0 := hs5.c0
        have z1 := hs5.c1
        have z2 := hs5.c2
        have z3 := hs5.c3
        have z4 := hs5.c4
        have zf0 := hs5.fr 0
        have zf1 := hs5.fr 1
        have zf2 := hs5.fr 2
        have zf3 := hs5.fr 3
        have zf4 := hs5.fr 4
        have y0 := s3.c0
        have y1 := s3.c1
        have y2 := s3.c2
        have y3 := s3.c3
        clear hs5 s3 o3 hb3 K1 K2 CD HV2 L1 L2 y12
        go_wp2_with fail
        refine bodyPost_ret (v := .agg #[.int .i64 0, .int .i64 bu, .int .i64 gu, .slice a1 n1 k1, .slice a2 n2 k2]) (by simp [results, Tryz.results37, go_sem, z0, z1, z2, z3, z4]) rfl ?_
        have hlt := HWB.out
        exact ⟨(StoAns.got (((((HO3.out.off1 _ hlt).off1 _ hlt).off1 _ hlt).off1 _ hlt).off1 _ hlt) (Nat.le_trans (Nat.le_succ _) (Nat.le_of_lt hlt)) (by rw [turnM_fst, HM.out.1]) (by rw [turnM_fst, HM.out.2.1])).of HAe.out, ((((HB.out.setCell (by simp) _).setCell (by simp) _).setCell (by simp) _).setCell (by simp) _).setCell (by simp) _⟩
      · have d2 : (decide (0 ≤ x.pins + by') && decide (x.pins + by' ≤ 20)) = false := by simpa using c2
        rw [d2] at L2
        have HAe : Hid (A = badA 3) := by have := HA2.out; rw [if_pos c2] at this; exact this
        have HB : Hid (Below w.heap.size w V2) := K2.out.1
        have hs5 := K2.out.2.1
        have z0 := hs5.c0
        have z1 := hs5.c1
        have z2 := hs5.c2
        have z3 := hs5.c3
        have z4 := hs5.c4
        have zf0 := hs5.fr 0
        have zf1 := hs5.fr 1
        have zf2 := hs5.fr 2
        have zf3 := hs5.fr 3
        have zf4 := hs5.fr 4
        clear c1 c2 d1 d2 HA2 HO xp0 xp1 HXP K1 K2 hs5 HM
        generalize x.pins = xp at *
        rw [HV2.out] at y12 z0 z1 z2 z3 z4 zf0 zf1 zf2 zf3 zf4
        go_wp2_with fail
        refine (L1.out _).mono ?_
        rintro e0 X1 ⟨rfl, rfl⟩
        go_wp2_with fail
        refine (L2.out _).mono ?_
        rintro e0 X1 ⟨rfl, rfl⟩
        go_wp2_with fail
        rw [← HV2.out]
        rw [← HV2.out] at z0 z1 z2 z3 z4
        refine bodyPost_ret (v := .agg #[.int .i64 3, .int .i64 0, .int .i64 0, .slice none 0 0, .slice none 0 0]) (by simp [results, Tryz.results37, go_sem, z0, z1, z2, z3, z4]) rfl ?_
        exact ⟨(StoAns.bad _ _ _).of HAe.out, ((((HB.out.setCell (by simp) _).setCell (by simp) _).setCell (by simp) _).setCell (by simp) _).setCell (by simp) _⟩
    · have d1 : (decide (-20 ≤ by') && decide (by' ≤ 20)) = false := by simpa using c1
      rw [d1] at L1
      have HAe : Hid (A = badA 3) := by have := HA2.out; rw [if_pos (fun h => c1 (by omega))] at this; exact this
      have HB : Hid (Below w.heap.size w V2) := K2.out.1
      have hs5 := K2.out.2.1
      have z0 := hs5.c0
      have z1 := hs5.c1
      have z2 := hs5.c2
      have z3 := hs5.c3
      have z4 := hs5.c4
      have zf0 := hs5.fr 0
      have zf1 := hs5.fr 1
      have zf2 := hs5.fr 2
      have zf3 := hs5.fr 3
      have zf4 := hs5.fr 4
      clear c1 d1 HA2 HO xp0 xp1 HXP K1 K2 hs5 HM y12
      rw [HV2.out] at z0 z1 z2 z3 z4 zf0 zf1 zf2 zf3 zf4
      go_wp2_with fail
      refine (L1.out _).mono ?_
      rintro e0 X1 ⟨rfl, rfl⟩
      go_wp2_with fail
      rw [← HV2.out]
      rw [← HV2.out] at z0 z1 z2 z3 z4
      refine bodyPost_ret (v := .agg #[.int .i64 3, .int .i64 0, .int .i64 0, .slice none 0 0, .slice none 0 0]) (by simp [results, Tryz.results37, go_sem, z0, z1, z2, z3, z4]) rfl ?_
      exact ⟨(StoAns.bad _ _ _).of HAe.out, ((((HB.out.setCell (by simp) _).setCell (by simp) _).setCell (by simp) _).setCell (by simp) _).setCell (by simp) _⟩
end Go.Proofs.YtmidfgjnaebfiaaGreatDoor
/-
  Entries that are pointed at, told anew by the program; a store of them.
-/
namespace Go.Proofs.YtmidfgjnaebfiaaGreatDoor
open Go.ChangeShapes Go.WideShapes Go.ChangeAt Go.RowKit Go.Sort
theorem entsO_nil (w : World) (base : Nat) : EntsO w base (.slice none 0 0) [] := ⟨OwnE.nil w base, fun q hq => by simp at hq, by simp [foot, Value.ownBlock]⟩
set_option maxRecDepth 100000 in
set_option maxHeartbeats 8000000 in
theorem told_any (w : World) (v : Value) (base : Nat) (l : List Hdl) (ho : OwnP w base v l) (hl : l.length ≤ 1000) (hth : ∀ h ∈ l, HThere w h) (hz : ∀ h ∈ l, entC h.x = 0) (hts : ∀ h ∈ l, ∀ t ∈ h.x.ts, t.size ≤ 1048576) :
    Calls Tryz.prog 150 #[.agg #[v], .func (.func 71) #[] #[]] w fun e w' => (∃ u m, e = .returned u ∧ m.map Prod.fst = l.map Hdl.x ∧ EntsO w' w.heap.size u m) ∧ Below w.heap.size w w' := by
  obtain ⟨i0, hi0, hz0, hz1, hz2⟩ := info_parts infoEntry
  obtain ⟨va, vc, rfl, _, hf⟩ := ho.form
  have HC : Hid (∀ (k : Nat) h, l[k]? = some h → ∃ g, va = some ⟨g, 0, none⟩ ∧ g < w.heap.size ∧ w.cell? ⟨g, k, none⟩ = some (.pointer (some ⟨h.b, h.o, none⟩))) := fun k h hk => by
    rcases hf with rfl | ⟨g, e, _, hg, hc⟩
    · simp at hk
    · exact ⟨g, e, hg, hc k h hk⟩
  have HT : Hid (∀ X, Below w.heap.size w X → ∀ h ∈ l, Calls Tryz.prog 71 #[.pointer (some ⟨h.b, h.o, none⟩)] X fun e w' => (∃ r, e = .returned (.agg #[.string h.x.key, .int .i64 h.x.st, .slice r.ha h.x.hs.length r.hc, .slice r.ba h.x.bl.length r.bc, .int .i64 h.x.t, .int .i64 h.x.g, .int .i64 h.x.l, .int .i64 h.x.s, .int .i64 h.x.e, .bool h.x.b1, .bool h.x.b2, .slice r.ta h.x.ts.length r.tc, .int .i64 h.x.pins]) ∧ EntLV w' X.heap.size h.x r) ∧ Below X.heap.size X w') := fun X hX h hh => (anew_at X h (hz h hh) (hts h hh) ((hth h hh).keep hX)).mono (fun e w' ⟨⟨r, h1, h2⟩, h3⟩ => ⟨⟨r, h1, h2.lv⟩, h3⟩)
  clear hf ho hth hz hts
  obtain ⟨n, hn0⟩ : ∃ n, l.length = n := ⟨_, rfl⟩
  rw [hn0] at hl ⊢
  have HN : Hid (l.length = n) := hn0
  clear hn0
  have HS : Hid (∃ m : List (Ent × EntR), m.map Prod.fst = (l.take 0).map Hdl.x ∧ EntsO (w.alloc (.cells #[.slice va n vc] 104)) w.heap.size (.slice none 0 0) m ∧ Below w.heap.size w (w.alloc (.cells #[.slice va n vc] 104))) := ⟨[], by simp, entsO_nil _ _, (Below.refl _ _).alloc (Nat.le_refl _) _⟩
  go_enter Tryz.func150, Tryz.ntmps150
  go_wp2_with fail
  go_loopw [5, 11] (fun v i wr => ∃ k : Nat, k ≤ n ∧ i = .int .i64 (k : Int) ∧ ∃ m : List (Ent × EntR), m.map Prod.fst = (l.take k).map Hdl.x ∧ EntsO wr w.heap.size v m ∧ Below w.heap.size w wr) (fun _ i _ => n - (intOf i).toNat)
  case atStart => exact ⟨0, Nat.zero_le _, rfl, HS.out⟩
  case round =>
    obtain ⟨k, hk, rfl, m, hm, ho, hb⟩ := hrel
    clear HS
    by_cases hlt : k < n
    · obtain ⟨q, hq⟩ : ∃ r, l[k]? = some r := ⟨l[k]'(by have := HN.out; omega), List.getElem?_eq_getElem _⟩
      have hml : m.length = k := by
        have := congrArg List.length hm
        rw [List.length_map, List.length_map, List.length_take] at this
        have := HN.out
        omega
      obtain ⟨g', rfl, hg, hc⟩ := HC.out k q hq
      have p1 : wr.cell? ⟨g', k, none⟩ = some (.pointer (some ⟨q.b, q.o, none⟩)) := by rw [hb.cell (p := ⟨g', k, none⟩) hg]; exact hc
      have CC := HT.out wr hb q (List.mem_of_getElem? hq)
      obtain ⟨ua, uc, rfl, huc⟩ := row_form ho.own
      rw [hml] at ho huc ⊢
      have HQ : Hid (l[k]? = some q ∧ m.map Prod.fst = (l.take k).map Hdl.x ∧ m.length = k ∧ EntsO wr w.heap.size (.slice ua k uc) m ∧ Below w.heap.size w wr) := ⟨hq, hm, hml, ho, hb⟩
      obtain ⟨x, hx⟩ : ∃ x, q.x = x := ⟨_, rfl⟩
      have HX : Hid (q.x = x) := hx
      rw [hx] at CC
      have gk : (k : Int) < n := by omega
      have gk0 : (0 : Int) ≤ k := by omega
      clear hc hq hm hml ho hb hx hg
      go_wp2_with fail
      refine CC.mono ?_
      rintro e w1 ⟨⟨r, rfl, hr⟩, hb1⟩
      have O1 := HQ.out.2.2.2.1.below hb1
      have s1 := hb1.size
      have K2 : Below w1.heap.size w1 (w1.alloc (.cells #[.string x.key, .int .i64 x.st, .slice r.ha x.hs.length r.hc, .slice r.ba x.bl.length r.bc, .int .i64 x.t, .int .i64 x.g, .int .i64 x.l, .int .i64 x.s, .int .i64 x.e, .bool x.b1, .bool x.b2, .slice r.ta x.ts.length r.tc, .int .i64 x.pins] 32)) := (Below.refl _ _).alloc (Nat.le_refl _) _
      have O2 : Hid ((w1.alloc (.cells #[.string x.key, .int .i64 x.st, .slice r.ha x.hs.length r.hc, .slice r.ba x.bl.length r.bc, .int .i64 x.t, .int .i64 x.g, .int .i64 x.l, .int .i64 x.s, .int .i64 x.e, .bool x.b1, .bool x.b2, .slice r.ta x.ts.length r.tc, .int .i64 x.pins] 32)).ownsRow w.heap.size 32 13 (.slice ua k uc) k (entsW m)) := by
        have := (O1.below K2).own
        unfold OwnE at this
        rw [HQ.out.2.2.1] at this
        exact this
      have s2 : Hid (w.heap.size ≤ (w1.alloc (.cells #[.string x.key, .int .i64 x.st, .slice r.ha x.hs.length r.hc, .slice r.ba x.bl.length r.bc, .int .i64 x.t, .int .i64 x.g, .int .i64 x.l, .int .i64 x.s, .int .i64 x.e, .bool x.b1, .bool x.b2, .slice r.ta x.ts.length r.tc, .int .i64 x.pins] 32)).heap.size) := by show _ ≤ _; have := K2.size; have := HQ.out.2.2.2.2.size; omega
      have HA : Hid (∀ g cap w3, w3.ownsRow w.heap.size 32 13 (.slice (some ⟨g, 0, none⟩) (k + 1) cap) (k + 1) (entsW m ++ entW x r) → (w1.alloc (.cells #[.string x.key, .int .i64 x.st, .slice r.ha x.hs.length r.hc, .slice r.ba x.bl.length r.bc, .int .i64 x.t, .int .i64 x.g, .int .i64 x.l, .int .i64 x.s, .int .i64 x.e, .bool x.b1, .bool x.b2, .slice r.ta x.ts.length r.tc, .int .i64 x.pins] 32)).grownBy w3 (Value.slice ua k uc).ownBlock → ((Value.slice ua k uc).ownBlock = some g ∨ g = (w1.alloc (.cells #[.string x.key, .int .i64 x.st, .slice r.ha x.hs.length r.hc, .slice r.ba x.bl.length r.bc, .int .i64 x.t, .int .i64 x.g, .int .i64 x.l, .int .i64 x.s, .int .i64 x.e, .bool x.b1, .bool x.b2, .slice r.ta x.ts.length r.tc, .int .i64 x.pins] 32)).heap.size) → ∃ m' : List (Ent × EntR), m'.map Prod.fst = (l.take (k + 1)).map Hdl.x ∧ EntsO w3 w.heap.size (.slice (some ⟨g, 0, none⟩) (k + 1) cap) m' ∧ Below w.heap.size w w3) := fun g cap w3 h1 h2 h3 => by
        obtain ⟨hq, hm, hml, ho, hb⟩ := HQ.out
        have hbase := hb.size
        have hB : Below w.heap.size (w1.alloc (.cells #[.string x.key, .int .i64 x.st, .slice r.ha x.hs.length r.hc, .slice r.ba x.bl.length r.bc, .int .i64 x.t, .int .i64 x.g, .int .i64 x.l, .int .i64 x.s, .int .i64 x.e, .bool x.b1, .bool x.b2, .slice r.ta x.ts.length r.tc, .int .i64 x.pins] 32)) w3 := (Below.refl _ _).grown h2 s2.out (fun q hq => row_ge O2.out q hq)
        refine ⟨m ++ [(x, r)], ?_, ?_, (hb.trans ((hb1.trans (K2.mono s1)).mono hbase)).trans hB⟩
        · rw [List.map_append, take_next hq, List.map_append, hm]
          simp [HX.out]
        · have := EntsO.app (g := g) (cap := cap) O1 hr hbase (fun b hb => ho.lt hb) K2 (by rw [hml]; exact h1) h2 hB.size h3
          rw [hml] at this
          exact this
      have HW : Hid (∀ j u, (entW x r)[j]? = some u → (w1.alloc (.cells #[.string x.key, .int .i64 x.st, .slice r.ha x.hs.length r.hc, .slice r.ba x.bl.length r.bc, .int .i64 x.t, .int .i64 x.g, .int .i64 x.l, .int .i64 x.s, .int .i64 x.e, .bool x.b1, .bool x.b2, .slice r.ta x.ts.length r.tc, .int .i64 x.pins] 32)).cell? ((⟨w1.heap.size, 0, none⟩ : Addr).add j) = some u) := entW_cells w1 x r _
      clear CC O1 K2 hr hb1 s1 p1
      go_wp2_with (at_builtin; refine wpList_append_lies _ rfl (.tmp 15) (.tmp 19) 36 rfl w.heap.size 32 i0 _ 13 152 Tryz.underlying36 hi0 hz0 hz1 hz2 rfl (by omega) _ k (entsW m) rfl O2.out _ 1 1 (entW x r) rfl rfl HW.out (entW_one x r) (by omega) (by unfold maxLen; omega) (by omega) s2.out _ rfl ?_; intro g cp w3 h1 h2 h3 h4)
      go_roundw
      case rel => exact ⟨k + 1, by omega, by go_num, HA.out _ _ _ h1 h2 h3⟩
      case measure => simp [intOf]; omega
    · have ek : k = n := by omega
      subst ek
      obtain ⟨ua, uc, rfl, _⟩ := row_form ho.own
      have HE : Hid ((∃ v' m', Ending.returned (.slice ua m.length uc) = .returned v' ∧ m'.map Prod.fst = l.map Hdl.x ∧ EntsO wr w.heap.size v' m') ∧ Below w.heap.size w wr) := ⟨⟨_, m, rfl, by rw [hm, List.take_of_length_le (by have := HN.out; omega)], ho⟩, hb⟩
      clear hm ho hb HC HT
      go_wp2_with fail
      go_ret
      exact HE.out
set_option maxRecDepth 100000 in
set_option maxHeartbeats 16000000 in
theorem storeLike_any (w : World) (v1 v2 : Value) (base : Nat) (l1 l2 : List Hdl) (bu gu : Int) (ta ka : Option Addr) (tc kc tn kn : Nat) (h : TwoP w base v1 v2 l1 l2) (hl : l1.length + l2.length ≤ 1000) (hth : ∀ h ∈ l1 ++ l2, HThere w h) (hz : ∀ h ∈ l1 ++ l2, entC h.x = 0) (hts : ∀ h ∈ l1 ++ l2, ∀ t ∈ h.x.ts, t.size ≤ 1048576) :
    Calls Tryz.prog 82 #[.agg #[v1, v2], .agg #[.int .i64 bu, .int .i64 gu, .slice ta tn tc, .slice ka kn kc]] w fun e w' => (∃ a1 k1 n1 a2 k2 n2 m1 m2, e = .returned (.agg #[.int .i64 bu, .int .i64 gu, .slice a1 n1 k1, .slice a2 n2 k2]) ∧ m1.map Prod.fst = l1.map Hdl.x ∧ m2.map Prod.fst = l2.map Hdl.x ∧ StoO w' w.heap.size (.slice a1 n1 k1) (.slice a2 n2 k2) m1 m2) ∧ Below w.heap.size w w' := by
  obtain ⟨b1, d1, e1, _⟩ := h.a.form
  obtain ⟨b2, d2, e2, _⟩ := h.b.form
  have HC1 : Hid (∀ X, Below w.heap.size w X → Calls Tryz.prog 150 #[.agg #[v1], .func (.func 71) #[] #[]] X fun e w' => (∃ u m, e = .returned u ∧ m.map Prod.fst = l1.map Hdl.x ∧ EntsO w' X.heap.size u m) ∧ Below X.heap.size X w') := fun X hX => told_any X v1 base l1 (h.a.below hX) (by omega) (fun x hx => (hth x (List.mem_append_left _ hx)).keep hX) (fun x hx => hz x (List.mem_append_left _ hx)) (fun x hx => hts x (List.mem_append_left _ hx))
  have HC2 : Hid (∀ X, Below w.heap.size w X → Calls Tryz.prog 150 #[.agg #[v2], .func (.func 71) #[] #[]] X fun e w' => (∃ u m, e = .returned u ∧ m.map Prod.fst = l2.map Hdl.x ∧ EntsO w' X.heap.size u m) ∧ Below X.heap.size X w') := fun X hX => told_any X v2 base l2 (h.b.below hX) (by omega) (fun x hx => (hth x (List.mem_append_right _ hx)).keep hX) (fun x hx => hz x (List.mem_append_right _ hx)) (fun x hx => hts x (List.mem_append_right _ hx))
  obtain ⟨W, hW⟩ : ∃ W, W = ((w.alloc (.cells #[v1, v2] 106)).alloc (.cells #[.int .i64 bu, .int .i64 gu, .slice ta tn tc, .slice ka kn kc] 38)).alloc (.cells #[.int .i64 0, .int .i64 0, .slice none 0 0, .slice none 0 0] 38) := ⟨_, rfl⟩
  have HW : Hid (W = ((w.alloc (.cells #[v1, v2] 106)).alloc (.cells #[.int .i64 bu, .int .i64 gu, .slice ta tn tc, .slice ka kn kc] 38)).alloc (.cells #[.int .i64 0, .int .i64 0, .slice none 0 0, .slice none 0 0] 38)) := hW
  have K0 : Hid (Below w.heap.size w W ∧ (W.cell? ⟨w.heap.size, 0, none⟩ = some v1 ∧ W.cell? ⟨w.heap.size, 1, none⟩ = some v2) ∧ S4 W (w.heap.size + 1) (.int .i64 bu) (.int .i64 gu) (.slice ta tn tc) (.slice ka kn kc) ∧ S4 W (w.heap.size + 2) (.int .i64 0) (.int .i64 0) (.slice none 0 0) (.slice none 0 0) ∧ W.heap.size = w.heap.size + 3) := by
    have A1 : Below (w.alloc (.cells #[v1, v2] 106)).heap.size (w.alloc (.cells #[v1, v2] 106)) W := by rw [hW]; exact ((Below.refl _ _).alloc (Nat.le_refl _) _).alloc (by simp) _
    have s1 := S4.new (w.alloc (.cells #[v1, v2] 106)) (.int .i64 bu) (.int .i64 gu) (.slice ta tn tc) (.slice ka kn kc) 38
    have s2 := S4.new ((w.alloc (.cells #[v1, v2] 106)).alloc (.cells #[.int .i64 bu, .int .i64 gu, .slice ta tn tc, .slice ka kn kc] 38)) (.int .i64 0) (.int .i64 0) (.slice none 0 0) (.slice none 0 0) 38
    rw [← hW] at s2
    have z1 : (w.alloc (.cells #[v1, v2] 106)).heap.size = w.heap.size + 1 := by simp
    have z2 : ((w.alloc (.cells #[v1, v2] 106)).alloc (.cells #[.int .i64 bu, .int .i64 gu, .slice ta tn tc, .slice ka kn kc] 38)).heap.size = w.heap.size + 2 := by simp
    rw [z1] at s1 A1
    rw [z2] at s2
    refine ⟨by rw [hW]; exact (((Below.refl _ _).alloc (Nat.le_refl _) _).alloc (by simp) _).alloc (by simp; omega) _, ⟨?_, ?_⟩, ?_, s2, by rw [hW]; simp⟩
    · rw [A1.cell (p := ⟨w.heap.size, 0, none⟩) (by simp)]; simp
    · rw [A1.cell (p := ⟨w.heap.size, 1, none⟩) (by simp)]; simp
    · refine s1.keep ?_
      rw [z2, hW]
      exact (Below.refl _ _).alloc (by simp) _
  clear hW h hth hz hts
  have HK : Hid (∀ X, Below W.heap.size W X → Below w.heap.size w X ∧ (X.cell? ⟨w.heap.size, 0, none⟩ = some v1 ∧ X.cell? ⟨w.heap.size, 1, none⟩ = some v2) ∧ S4 X (w.heap.size + 1) (.int .i64 bu) (.int .i64 gu) (.slice ta tn tc) (.slice ka kn kc) ∧ S4 X (w.heap.size + 2) (.int .i64 0) (.int .i64 0) (.slice none 0 0) (.slice none 0 0) ∧ w.heap.size + 3 ≤ X.heap.size) := fun X hX => by
    obtain ⟨k1, ⟨k2, k3⟩, k4, k5, k6⟩ := K0.out
    have hz := hX.size
    refine ⟨k1.trans (hX.mono k1.size), ⟨?_, ?_⟩, k4.keep hX, k5.keep hX, by omega⟩
    · rw [hX.cell (p := ⟨w.heap.size, 0, none⟩) (by simp only; omega)]; exact k2
    · rw [hX.cell (p := ⟨w.heap.size, 1, none⟩) (by simp only; omega)]; exact k3
  clear K0
  subst e1
  subst e2
  generalize l1.length = c1 at *
  generalize l2.length = c2 at *
  have HKS : Hid (∀ X, Below W.heap.size W X → (X.cell? ⟨w.heap.size, 0, none⟩ = some (.slice b1 c1 d1) ∧ X.cell? ⟨w.heap.size, 1, none⟩ = some (.slice b2 c2 d2) ∧ X.cell? ⟨w.heap.size + 1, 0, none⟩ = some (.int .i64 bu) ∧ X.cell? ⟨w.heap.size + 1, 1, none⟩ = some (.int .i64 gu))) := fun X hX => ⟨(HK.out X hX).2.1.1, (HK.out X hX).2.1.2, (HK.out X hX).2.2.1.c0, (HK.out X hX).2.2.1.c1⟩
  have HKT : Hid (∀ X u0 u1 u2 u3, Below W.heap.size W X → (((((X.setCell ⟨w.heap.size + 2, 0, none⟩ u0).setCell ⟨w.heap.size + 2, 1, none⟩ u1).setCell ⟨w.heap.size + 2, 2, none⟩ u2).setCell ⟨w.heap.size + 2, 3, none⟩ u3).cell? ⟨w.heap.size, 0, none⟩ = some (.slice b1 c1 d1) ∧ ((((X.setCell ⟨w.heap.size + 2, 0, none⟩ u0).setCell ⟨w.heap.size + 2, 1, none⟩ u1).setCell ⟨w.heap.size + 2, 2, none⟩ u2).setCell ⟨w.heap.size + 2, 3, none⟩ u3).cell? ⟨w.heap.size, 1, none⟩ = some (.slice b2 c2 d2) ∧ ((((X.setCell ⟨w.heap.size + 2, 0, none⟩ u0).setCell ⟨w.heap.size + 2, 1, none⟩ u1).setCell ⟨w.heap.size + 2, 2, none⟩ u2).setCell ⟨w.heap.size + 2, 3, none⟩ u3).cell? ⟨w.heap.size + 1, 0, none⟩ = some (.int .i64 bu) ∧ ((((X.setCell ⟨w.heap.size + 2, 0, none⟩ u0).setCell ⟨w.heap.size + 2, 1, none⟩ u1).setCell ⟨w.heap.size + 2, 2, none⟩ u2).setCell ⟨w.heap.size + 2, 3, none⟩ u3).cell? ⟨w.heap.size + 1, 1, none⟩ = some (.int .i64 gu))) := fun X u0 u1 u2 u3 hX => by
    obtain ⟨q0, q1, q2, q3⟩ := HKS.out X hX
    have off : ∀ (b i : Nat), b ≠ w.heap.size + 2 → ((((X.setCell ⟨w.heap.size + 2, 0, none⟩ u0).setCell ⟨w.heap.size + 2, 1, none⟩ u1).setCell ⟨w.heap.size + 2, 2, none⟩ u2).setCell ⟨w.heap.size + 2, 3, none⟩ u3).cell? ⟨b, i, none⟩ = X.cell? ⟨b, i, none⟩ := fun b i hb => by
      have ne : ∀ j, (⟨w.heap.size + 2, j, none⟩ : Addr) ≠ ⟨b, i, none⟩ := fun j e => hb (congrArg Addr.block e).symm
      rw [World.cell?_setCell_other _ _ _ _ (ne 3), World.cell?_setCell_other _ _ _ _ (ne 2), World.cell?_setCell_other _ _ _ _ (ne 1), World.cell?_setCell_other _ _ _ _ (ne 0)]
    rw [off _ _ (by omega), off _ _ (by omega), off _ _ (by omega), off _ _ (by omega)]
    exact ⟨q0, q1, q2, q3⟩
  have B0 : Hid (Below W.heap.size W W.drew) := (Below.refl _ _).drew
  go_enter Tryz.func82, Tryz.ntmps82
  go_wp2_with fail
  rw [← HW.out]
  clear HW
  go_region_held3 (fun X => X.cell? ⟨w.heap.size, 0, none⟩ = some (.slice b1 c1 d1) ∧ X.cell? ⟨w.heap.size, 1, none⟩ = some (.slice b2 c2 d2) ∧ X.cell? ⟨w.heap.size + 1, 0, none⟩ = some (.int .i64 bu) ∧ X.cell? ⟨w.heap.size + 1, 1, none⟩ = some (.int .i64 gu))
    (first | ((with_reducible refine HKS.out _ ?_); (with_reducible exact BB.out)) | ((with_reducible refine HKS.out _ ?_); (with_reducible exact BA.out)) | ((with_reducible refine HKS.out _ ?_); (with_reducible exact B0.out)) | ((with_reducible refine HKT.out _ _ _ _ _ ?_); (with_reducible exact BB.out)))
    (first
    | (go_at_call 150; have hBA := BA; refine (HC2.out _ (HK.out _ BA.out).1).mono ?_; rintro r0 wb ⟨⟨u2, m2, rfl, hm2, ho2⟩, hbb⟩; obtain ⟨a2, k2, rfl, _⟩ := row_form ho2.own; have BB : Hid (Below W.heap.size W wb) := BA.out.trans (hbb.mono BA.out.size); have TT : Hid (StoO wb (w.heap.size + 3) _ (.slice a2 m2.length k2) m1 m2 ∧ m2.map Prod.fst = l2.map Hdl.x) := ⟨StoO.two OA.out ho2 hbb (Nat.le_refl _) (HK.out _ BA.out).2.2.2.2, hm2⟩; have s4 := (HK.out _ BB.out).2.2.2.1; have c0 := s4.c0; have c1' := s4.c1; have c2' := s4.c2; have c3 := s4.c3; have cf0 := s4.fr 0; have cf1 := s4.fr 1; have cf2 := s4.fr 2; have cf3 := s4.fr 3; clear s4 hbb ho2 hBA hm2)
    | (go_at_call 150; refine (HC1.out _ (HK.out _ B0.out).1).mono ?_; rintro r0 wa ⟨⟨u1, m1, rfl, hm1, ho1⟩, hba⟩; obtain ⟨a1, k1, rfl, _⟩ := row_form ho1.own; have BA : Hid (Below W.heap.size W wa) := B0.out.trans (hba.mono B0.out.size); have OA : Hid (EntsO wa (w.heap.size + 3) (.slice a1 m1.length k1) m1) := ho1.lower (HK.out _ B0.out).2.2.2.2; have HM1 : Hid (m1.map Prod.fst = l1.map Hdl.x) := hm1; clear hba ho1 hm1))
  all_goals
    have KZ : Hid (∀ q0 q1 q2 q3, StoO ((((wb.setCell ⟨w.heap.size + 2, 0, none⟩ q0).setCell ⟨w.heap.size + 2, 1, none⟩ q1).setCell ⟨w.heap.size + 2, 2, none⟩ q2).setCell ⟨w.heap.size + 2, 3, none⟩ q3) w.heap.size (.slice a1 m1.length k1) (.slice a2 m2.length k2) m1 m2 ∧ Below w.heap.size w ((((wb.setCell ⟨w.heap.size + 2, 0, none⟩ q0).setCell ⟨w.heap.size + 2, 1, none⟩ q1).setCell ⟨w.heap.size + 2, 2, none⟩ q2).setCell ⟨w.heap.size + 2, 3, none⟩ q3)) := fun q0 q1 q2 q3 => ⟨((((TT.out.1.off1 q0 (by omega)).off1 q1 (by omega)).off1 q2 (by omega)).off1 q3 (by omega)).lower (by omega), ((((HK.out _ BB.out).1.setCell (by simp) _).setCell (by simp) _).setCell (by simp) _).setCell (by simp) _⟩
    go_wp2_with fail
    exact bodyPost_ret (v := .agg #[.int .i64 bu, .int .i64 gu, .slice a1 m1.length k1, .slice a2 m2.length k2]) (by simp [results, Tryz.results82, go_sem, c0, c1', c2', c3]) rfl ⟨⟨a1, k1, _, a2, k2, _, m1, m2, rfl, HM1.out, TT.out.2, (KZ.out _ _ _ _).1⟩, (KZ.out _ _ _ _).2⟩
end Go.Proofs.YtmidfgjnaebfiaaGreatDoor
/-
  PinEntry, by the program.
-/
namespace Go.Proofs.YtmidfgjnaebfiaaGreatDoor
open Go.ChangeShapes Go.WideShapes Go.ChangeAt Go.RowKit Go.Sort
theorem keyC_peek (bu gu : Int) (tl kl : List Ent) (key : ByteArray) : keyC bu gu tl kl key = (peekR bu gu tl kl key).1 := by
  unfold keyC
  by_cases hs : storeC bu gu tl kl = 0
  · rw [if_neg (by simpa using hs)]
    cases hf : (tl ++ kl).find? (isKey key) with
    | none => rw [peekR_none hs hf]; simp
    | some x => rw [peekR_some hs hf]; simp
  · rw [if_pos hs, peekR_bad hs]
/-- Where an entry lies that is pointed at. -/
theorem hdlsA_loc {w : World} {base n k : Nat} {a : Option Addr} {m : List (Ent × EntR)} {h : Hdl} (hm : EntsLV w base (.slice a n k) m) (hh : h ∈ hdlsA a m) : ∃ G A C, a = some ⟨G, 0, none⟩ ∧ m = A ++ (h.x, h.r) :: C ∧ h.b = G ∧ h.o = A.length * 13 := by
  rcases hm.form with ⟨e, rfl⟩ | ⟨G, c, e, _⟩
  · simp only [Value.slice.injEq] at e
    obtain ⟨rfl, _⟩ := e
    simp [hdlsA, hdls] at hh
  · simp only [Value.slice.injEq] at e
    obtain ⟨rfl, _⟩ := e
    simp only [hdlsA] at hh
    obtain ⟨i, hi⟩ := List.mem_iff_getElem?.1 hh
    unfold hdls at hi
    rw [List.getElem?_mapIdx] at hi
    obtain ⟨q, hq, rfl⟩ := Option.map_eq_some_iff.1 hi
    obtain ⟨A, C, e1, e2⟩ := mid_split hq
    exact ⟨G, A, C, rfl, e1, rfl, by rw [e2]; simp⟩
theorem turn_set {X : World} {base n1 k1 n2 k2 : Nat} {a1 a2 : Option Addr} {m1 m2 : List (Ent × EntR)} {key : ByteArray} {h : Hdl} (f : Ent → Ent) (j : Nat) (hj : j < 13) (u : Value) (hs : StoLV X base (.slice a1 n1 k1) (.slice a2 n2 k2) m1 m2) (nd : NdK ((m1 ++ m2).map Prod.fst)) (hh : h ∈ hdl2 a1 a2 m1 m2) (hk : isKey key h.x = true) (e : ∀ r, entW (f h.x) r = (entW h.x r).set j u) (eh : (f h.x).hs = h.x.hs) (eb : (f h.x).bl = h.x.bl) (et : (f h.x).ts = h.x.ts) :
    X.cell? ⟨h.b, h.o + j, none⟩ = (entW h.x h.r)[j]? ∧ X.frozen? ⟨h.b, h.o + j, none⟩ = false ∧ base ≤ h.b ∧ (h.b ∈ fp (.slice a1 n1 k1) m1 ∨ h.b ∈ fp (.slice a2 n2 k2) m2) ∧ StoLV (X.setCell ⟨h.b, h.o + j, none⟩ u) base (.slice a1 n1 k1) (.slice a2 n2 k2) (turnM (isKey key) f m1) (turnM (isKey key) f m2) := by
  rw [List.map_append] at nd
  obtain ⟨d1, d2, d3⟩ := NdK.app nd
  rcases List.mem_append.1 hh with hh | hh
  · obtain ⟨G, A, C, rfl, em, hb, ho⟩ := hdlsA_loc hs.t hh
    rw [hb, ho]
    have mid := NdK.mid (key := key) (by rw [← em]; exact d1) hk
    have z := hs.t.at
    have e1 : turnM (isKey key) f m1 = A ++ (f h.x, h.r) :: C := by rw [em]; exact turnM_mid hk mid.1 mid.2
    have e2 : turnM (isKey key) f m2 = m2 := turnM_none fun q hq => by
      by_cases c : isKey key q.1 = true
      · exact absurd (isKey_eq hk c) (d3 h.x (by rw [em]; simp) q.1 (List.mem_map_of_mem hq))
      · simpa using c
    refine ⟨z.2.2.2.2.1 A.length (h.x, h.r) (by rw [em]; exact mid_eq _ _ _) j hj, z.2.2.2.2.2 _, z.2.2.1, .inl (by simp [fp, Value.ownBlock]), ?_⟩
    rw [e1, e2]
    have hs' := hs
    rw [em] at hs'
    exact hs'.setT rfl j hj u (f h.x) (e h.r) eh eb et
  · obtain ⟨G, A, C, rfl, em, hb, ho⟩ := hdlsA_loc hs.k hh
    rw [hb, ho]
    have mid := NdK.mid (key := key) (by rw [← em]; exact d2) hk
    have z := hs.k.at
    have e1 : turnM (isKey key) f m2 = A ++ (f h.x, h.r) :: C := by rw [em]; exact turnM_mid hk mid.1 mid.2
    have e2 : turnM (isKey key) f m1 = m1 := turnM_none fun q hq => by
      by_cases c : isKey key q.1 = true
      · exact absurd (isKey_eq c hk) (d3 q.1 (List.mem_map_of_mem hq) h.x (by rw [em]; simp))
      · simpa using c
    refine ⟨z.2.2.2.2.1 A.length (h.x, h.r) (by rw [em]; exact mid_eq _ _ _) j hj, z.2.2.2.2.2 _, z.2.2.1, .inr (by simp [fp, Value.ownBlock]), ?_⟩
    rw [e1, e2]
    have hs' := hs
    rw [em] at hs'
    exact hs'.setK rfl j hj u (f h.x) (e h.r) eh eb et
set_option maxRecDepth 100000 in
set_option maxHeartbeats 16000000 in
theorem implPin_any (w : World) (bu gu by' : Int) (ta ka : Option Addr) (tc kc : Nat) (tl kl : List (Ent × EntR)) (key : ByteArray) (hset : SetIs w) (hl : tl.length ≤ 1048576) (hk : kl.length ≤ 1048576) (hto : ∀ q ∈ tl ++ kl, EntOk q.1) (hts : ∀ q ∈ tl ++ kl, ∀ t ∈ q.1.ts, t.size ≤ 1048576) (ht : EntsIn w ta tl) (hq : EntsIn w ka kl) :
    Calls Tryz.prog 38 #[.agg #[.int .i64 bu, .int .i64 gu, .slice ta tl.length tc, .slice ka kl.length kc], .string key, .int .i64 by'] w fun e w' => StoAns (pinA bu gu (tl.map Prod.fst) (kl.map Prod.fst) key by') w.heap.size e w' ∧ Below w.heap.size w w' := by
  have HKF : Hid (∀ X, Below w.heap.size w X → Calls Tryz.prog 70 #[.agg #[.int .i64 bu, .int .i64 gu, .slice ta tl.length tc, .slice ka kl.length kc], .string key] X fun r w' => r = .returned (.int .i64 (peekR bu gu (tl.map Prod.fst) (kl.map Prod.fst) key).1) ∧ Below X.heap.size X w') := fun X hb => by
    rw [← keyC_peek]; exact keyFault_any X bu gu ta ka tc kc tl kl key (hset.below hb) hl hk hto (ht.keep hb) (hq.keep hb)
  have HSO : Hid (∀ X, Below w.heap.size w X → Calls Tryz.prog 72 #[.agg #[.int .i64 bu, .int .i64 gu, .slice ta tl.length tc, .slice ka kl.length kc]] X fun e w' => (∃ v1 v2, e = .returned (.agg #[v1, v2]) ∧ TwoP w' X.heap.size v1 v2 (hdlsA ta tl) (hdlsA ka kl)) ∧ Below X.heap.size X w') := fun X hb => shelvesOf_any X bu gu ta ka tc kc tl kl hl hk (ht.keep hb) (hq.keep hb)
  have HTH : Hid (∀ X, Below w.heap.size w X → ∀ h ∈ hdl2 ta ka tl kl, HThere X h) := fun X hb => hdl2_there (ht.keep hb) (hq.keep hb)
  have HTS : Hid (∀ h ∈ hdl2 ta ka tl kl, ∀ t ∈ h.x.ts, t.size ≤ 1048576) := fun h hh => by
    have hm : h.x ∈ (tl ++ kl).map Prod.fst := by rw [List.map_append, ← hdl2_x ta ka]; exact List.mem_map_of_mem hh
    obtain ⟨q, hq, e⟩ := List.mem_map.1 hm
    rw [← e]; exact hts q hq
  have HX2 : Hid ((hdl2 ta ka tl kl).map Hdl.x = tl.map Prod.fst ++ kl.map Prod.fst) := hdl2_x _ _ _ _
  obtain ⟨W, hW⟩ : ∃ W, W = (w.alloc (.cells #[.int .i64 bu, .int .i64 gu, .slice ta tl.length tc, .slice ka kl.length kc] 38)).alloc (.cells #[.int .i64 0, .int .i64 0, .int .i64 0, .slice none 0 0, .slice none 0 0] 46) := ⟨_, rfl⟩
  have HW : Hid (W = (w.alloc (.cells #[.int .i64 bu, .int .i64 gu, .slice ta tl.length tc, .slice ka kl.length kc] 38)).alloc (.cells #[.int .i64 0, .int .i64 0, .int .i64 0, .slice none 0 0, .slice none 0 0] 46)) := hW
  have K0 : Hid (Below w.heap.size w W ∧ S4 W w.heap.size (.int .i64 bu) (.int .i64 gu) (.slice ta tl.length tc) (.slice ka kl.length kc) ∧ S5 W (w.heap.size + 1) (.int .i64 0) (.int .i64 0) (.int .i64 0) (.slice none 0 0) (.slice none 0 0) ∧ w.heap.size + 2 ≤ W.heap.size) := by
    rw [hW]
    refine ⟨((Below.refl _ _).alloc (Nat.le_refl _) _).alloc (by simp) _, (S4.new w _ _ _ _ _).keep ((Below.refl _ _).alloc (Nat.le_refl _) _), ?_, by simp⟩
    have := S5.new (w.alloc (.cells #[.int .i64 bu, .int .i64 gu, .slice ta tl.length tc, .slice ka kl.length kc] 38)) (.int .i64 0) (.int .i64 0) (.int .i64 0) (.slice none 0 0) (.slice none 0 0) 46
    simpa using this
  obtain ⟨A, hA⟩ : ∃ A, pinA bu gu (tl.map Prod.fst) (kl.map Prod.fst) key by' = A := ⟨_, rfl⟩
  rw [hA]
  unfold pinA at hA
  have HA : Hid (_ = A) := hA
  have HL1 : Hid ((hdlsA ta tl).map Hdl.x = tl.map Prod.fst ∧ (hdlsA ka kl).map Hdl.x = kl.map Prod.fst ∧ (hdlsA ta tl).length = tl.length ∧ (hdlsA ka kl).length = kl.length) := ⟨hdlsA_x _ _, hdlsA_x _ _, hdlsA_len _ _, hdlsA_len _ _⟩
  clear hW hl hk hto hts ht hq hA hset
  obtain ⟨P, hP⟩ : ∃ P, peekR bu gu (tl.map Prod.fst) (kl.map Prod.fst) key = P := ⟨_, rfl⟩
  have HP : Hid (peekR bu gu (tl.map Prod.fst) (kl.map Prod.fst) key = P) := hP
  rw [hP] at HKF HA
  clear hP
  obtain ⟨c, x⟩ := P
  simp only at HKF HA
  have e0 := K0.out.2.1.c0
  have e1 := K0.out.2.1.c1
  have e2 := K0.out.2.1.c2
  have e3 := K0.out.2.1.c3
  rw [HW.out] at e0 e1 e2 e3
  obtain ⟨tn, htn⟩ : ∃ n, Hid (tl.length = n) := ⟨_, rfl⟩
  obtain ⟨kn, hkn⟩ : ∃ n, Hid (kl.length = n) := ⟨_, rfl⟩
  rw [htn.out, hkn.out] at HKF HSO HW K0 HL1 ⊢
  rw [htn.out] at e0 e1 e2 e3
  rw [hkn.out] at e0 e1 e2 e3
  by_cases hc : c = 0
  · subst hc
    obtain ⟨hst, hfi⟩ := peekR_zero (bu := bu) (gu := gu) (tl := tl.map Prod.fst) (kl := kl.map Prod.fst) (key := key) (by rw [HP.out])
    rw [HP.out] at hfi
    simp only at hfi
    have hln := (storeC_zero hst).2.1
    rw [List.length_map, List.length_map, htn.out, hkn.out] at hln
    have HXP : Hid (0 ≤ x.pins ∧ x.pins ≤ 20 ∧ isKey key x = true) := by
      have := entC_pins (storeC_ent hst x (List.mem_of_find?_eq_some hfi))
      exact ⟨this.1, this.2, List.find?_some hfi⟩
    have HZC : Hid (∀ h ∈ hdl2 ta ka tl kl, entC h.x = 0) := fun h hh => storeC_ent hst h.x (by rw [← HX2.out]; exact List.mem_map_of_mem hh)
    have HF1 : Hid (∀ X v1 v2 base, Below w.heap.size w X → TwoP X base v1 v2 (hdlsA ta tl) (hdlsA ka kl) → Calls Tryz.prog 73 #[.agg #[v1, v2], .string key] X fun e w' => (∃ b o, e = .returned (.pointer (some ⟨b, o, none⟩)) ∧ w'.cell? ⟨b, o + 12, none⟩ = some (.int .i64 x.pins)) ∧ Below X.heap.size X w') := fun X v1 v2 base hb h => by
      refine (findP_any X v1 v2 base _ _ key h (by rw [HL1.out.2.2.1, HL1.out.2.2.2]; omega) (HTH.out X hb)).mono ?_
      rintro e w' ⟨⟨v, rfl, hv⟩, hb'⟩
      refine ⟨?_, hb'⟩
      rcases hv with ⟨h, hh, hx, rfl⟩ | ⟨hx, _⟩
      · have hx' : ((hdl2 ta ka tl kl).map Hdl.x).find? (isKey key) = some h.x := hx
        rw [HX2.out, hfi] at hx'
        have ex : x = h.x := Option.some.inj hx'
        have := (HTH.out w' (hb.trans (hb'.mono hb.size)) h hh).1 12 (by omega)
        exact ⟨h.b, h.o, rfl, by rw [ex]; exact this⟩
      · have hx' : ((hdl2 ta ka tl kl).map Hdl.x).find? (isKey key) = none := hx
        rw [HX2.out, hfi] at hx'
        exact absurd hx' (by simp)
    have HSL : Hid (∀ X v1 v2 base, Below w.heap.size w X → TwoP X base v1 v2 (hdlsA ta tl) (hdlsA ka kl) → Calls Tryz.prog 82 #[.agg #[v1, v2], .agg #[.int .i64 bu, .int .i64 gu, .slice ta tn tc, .slice ka kn kc]] X fun e w' => (∃ a1 k1 n1 a2 k2 n2 m1 m2, e = .returned (.agg #[.int .i64 bu, .int .i64 gu, .slice a1 n1 k1, .slice a2 n2 k2]) ∧ m1.map Prod.fst = tl.map Prod.fst ∧ m2.map Prod.fst = kl.map Prod.fst ∧ StoLV w' X.heap.size (.slice a1 n1 k1) (.slice a2 n2 k2) m1 m2) ∧ Below X.heap.size X w') := fun X v1 v2 base hb h => by
      refine (storeLike_any X v1 v2 base _ _ bu gu ta ka tc kc tn kn h (by rw [HL1.out.2.2.1, HL1.out.2.2.2]; omega) (HTH.out X hb) HZC.out HTS.out).mono ?_
      rintro e w' ⟨⟨a1, k1, n1, a2, k2, n2, m1, m2, rfl, q1, q2, o⟩, hb'⟩
      exact ⟨⟨a1, k1, n1, a2, k2, n2, m1, m2, rfl, by rw [q1, HL1.out.1], by rw [q2, HL1.out.2.1], o.lv⟩, hb'⟩
    have HS2 : Hid (∀ X base a1 k1 n1 a2 k2 n2 m1 m2, m1.map Prod.fst = tl.map Prod.fst → m2.map Prod.fst = kl.map Prod.fst → StoLV X base (.slice a1 n1 k1) (.slice a2 n2 k2) m1 m2 → Calls Tryz.prog 72 #[.agg #[.int .i64 bu, .int .i64 gu, .slice a1 n1 k1, .slice a2 n2 k2]] X fun e w' => (∃ v1 v2, e = .returned (.agg #[v1, v2]) ∧ Calls Tryz.prog 73 #[.agg #[v1, v2], .string key] w' fun e w'' => (∃ b o, e = .returned (.pointer (some ⟨b, o, none⟩)) ∧ w''.cell? ⟨b, o + 12, none⟩ = some (.int .i64 x.pins) ∧ w''.frozen? ⟨b, o + 12, none⟩ = false ∧ base ≤ b ∧ (b ∈ fp (.slice a1 n1 k1) m1 ∨ b ∈ fp (.slice a2 n2 k2) m2) ∧ StoLV (w''.setCell ⟨b, o + 12, none⟩ (.int .i64 (x.pins + by'))) base (.slice a1 n1 k1) (.slice a2 n2 k2) (turnM (isKey key) (pinBy by') m1) (turnM (isKey key) (pinBy by') m2)) ∧ Below w'.heap.size w' w'') ∧ Below X.heap.size X w') := fun X base a1 k1 n1 a2 k2 n2 m1 m2 q1 q2 o => by
      obtain ⟨rfl, i1⟩ := slice_len o.t
      obtain ⟨rfl, i2⟩ := slice_len o.k
      have nd := storeC_nd hst
      rw [← q1, ← q2, ← List.map_append] at nd
      refine (shFind_any X bu gu a1 a2 k1 k2 m1 m2 key (by rw [q1, q2]; exact hst) i1 i2).mono ?_
      rintro e w' ⟨⟨v1, v2, rfl, hF⟩, hb'⟩
      refine ⟨⟨v1, v2, rfl, hF.mono ?_⟩, hb'⟩
      rintro e w'' ⟨⟨v, rfl, hv⟩, hb''⟩
      refine ⟨?_, hb''⟩
      have ofi : ((hdl2 a1 a2 m1 m2).map Hdl.x).find? (isKey key) = some x := by rw [hdl2_x, q1, q2]; exact hfi
      rcases hv with ⟨h, hh, hx, rfl⟩ | ⟨hx, _⟩
      · rw [ofi] at hx
        have ex : x = h.x := Option.some.inj hx
        have ts := turn_set (f := pinBy by') 12 (by omega) (.int .i64 (h.x.pins + by')) ((o.below hb').below hb'') nd hh (by rw [← ex]; exact HXP.out.2.2) (fun r => rfl) rfl rfl rfl
        rw [← ex] at ts
        exact ⟨h.b, h.o, rfl, ts.1, ts.2.1, ts.2.2.1, ts.2.2.2.1, ts.2.2.2.2⟩
      · rw [ofi] at hx; exact absurd hx (by simp)
    have HA2 : Hid (A = if ¬ (0 ≤ x.pins + by' ∧ x.pins + by' ≤ 20) then badA 3 else ⟨0, bu, gu, turnE (isKey key) (pinBy by') (tl.map Prod.fst), turnE (isKey key) (pinBy by') (kl.map Prod.fst)⟩) := by have := HA.out; simp only [ne_eq, not_true_eq_false, if_false] at this; exact this.symm
    obtain ⟨xp0, xp1, _⟩ := HXP.out
    clear HA HP HX2 HTH HTS HZC hst hfi hln htn hkn HL1 HXP
    generalize x.pins = xp at *
    go_enter Tryz.func38, Tryz.ntmps38
    go_wp2_with fail
    rw [← HW.out]
    refine (HKF.out _ K0.out.1).mono ?_
    rintro r0 w1 ⟨rfl, hb1⟩
    have K1 : Hid (Below w.heap.size w w1 ∧ S4 w1 w.heap.size (.int .i64 bu) (.int .i64 gu) (.slice ta tn tc) (.slice ka kn kc) ∧ S5 w1 (w.heap.size + 1) (.int .i64 0) (.int .i64 0) (.int .i64 0) (.slice none 0 0) (.slice none 0 0) ∧ w.heap.size + 2 ≤ w1.heap.size) := ⟨K0.out.1.trans (hb1.mono K0.out.1.size), K0.out.2.1.keep hb1, K0.out.2.2.1.keep hb1, by have := K0.out.2.2.2; have := hb1.size; omega⟩
    clear K0 HW hb1 HKF e0 e1 e2 e3
    have e0 := K1.out.2.1.c0
    have e1 := K1.out.2.1.c1
    have e2 := K1.out.2.1.c2
    have e3 := K1.out.2.1.c3
    go_wp2_with fail
    refine (HSO.out _ K1.out.1).mono ?_
    rintro r0 w2 ⟨⟨v1, v2, rfl, tp⟩, hb2⟩
    obtain ⟨b1, d1, rfl, _⟩ := tp.a.form
    obtain ⟨b2, d2, rfl, _⟩ := tp.b.form
    generalize (hdlsA ta tl).length = l1 at *
    generalize (hdlsA ka kl).length = l2 at *
    obtain ⟨V2, hV2⟩ : ∃ V, V = w2.alloc (.cells #[.slice b1 l1 d1, .slice b2 l2 d2] 106) := ⟨_, rfl⟩
    have HV2 : Hid (V2 = w2.alloc (.cells #[.slice b1 l1 d1, .slice b2 l2 d2] 106)) := hV2
    have aV2 : Below w2.heap.size w2 V2 := by rw [hV2]; exact (Below.refl _ _).alloc (Nat.le_refl _) _
    have bV2 : Below w1.heap.size w1 V2 := hb2.trans (aV2.mono hb2.size)
    have K2 : Hid (Below w.heap.size w V2 ∧ S4 V2 w.heap.size (.int .i64 bu) (.int .i64 gu) (.slice ta tn tc) (.slice ka kn kc) ∧ S5 V2 (w.heap.size + 1) (.int .i64 0) (.int .i64 0) (.int .i64 0) (.slice none 0 0) (.slice none 0 0) ∧ TwoP V2 w1.heap.size (.slice b1 l1 d1) (.slice b2 l2 d2) (hdlsA ta tl) (hdlsA ka kl) ∧ (V2.cell? ⟨w2.heap.size, 0, none⟩ = some (.slice b1 l1 d1) ∧ V2.cell? ⟨w2.heap.size, 1, none⟩ = some (.slice b2 l2 d2)) ∧ w2.heap.size < V2.heap.size ∧ w.heap.size + 2 ≤ V2.heap.size) := ⟨K1.out.1.trans (bV2.mono K1.out.1.size), K1.out.2.1.keep bV2, K1.out.2.2.1.keep bV2, tp.below aV2, by rw [hV2]; simp, by rw [hV2]; simp, by have := K1.out.2.2.2; have := bV2.size; omega⟩
    clear hV2 aV2 bV2 hb2 tp K1 HSO e0 e1 e2 e3
    obtain ⟨y0, y1⟩ := K2.out.2.2.2.2.1
    rw [HV2.out] at y0 y1
    go_wp2_with fail
    rw [← HV2.out]
    rw [← HV2.out] at y0 y1
    refine (HF1.out _ _ _ _ K2.out.1 K2.out.2.2.2.1).mono ?_
    rintro r0 w3 ⟨⟨pb, po, rfl, yp⟩, hb3⟩
    have K3 : Hid (Below w.heap.size w w3 ∧ S4 w3 w.heap.size (.int .i64 bu) (.int .i64 gu) (.slice ta tn tc) (.slice ka kn kc) ∧ S5 w3 (w.heap.size + 1) (.int .i64 0) (.int .i64 0) (.int .i64 0) (.slice none 0 0) (.slice none 0 0) ∧ TwoP w3 w1.heap.size (.slice b1 l1 d1) (.slice b2 l2 d2) (hdlsA ta tl) (hdlsA ka kl) ∧ (w3.cell? ⟨w2.heap.size, 0, none⟩ = some (.slice b1 l1 d1) ∧ w3.cell? ⟨w2.heap.size, 1, none⟩ = some (.slice b2 l2 d2)) ∧ w.heap.size + 2 ≤ w3.heap.size) := by
      obtain ⟨k1, k2, k3, k4, ⟨k5, k6⟩, k7, k8⟩ := K2.out
      exact ⟨k1.trans (hb3.mono k1.size), k2.keep hb3, k3.keep hb3, k4.below hb3, ⟨by rw [hb3.cell (p := ⟨w2.heap.size, 0, none⟩) k7]; exact k5, by rw [hb3.cell (p := ⟨w2.heap.size, 1, none⟩) k7]; exact k6⟩, by have := hb3.size; omega⟩
    clear K2 hb3 HF1 HV2 y0 y1
    have en : IntKind.i64.wrap (-xp) = -xp := by unfold IntKind.wrap; simp [IntKind.signed, IntKind.bits]; omega
    have es : IntKind.i64.wrap (20 - xp) = 20 - xp := by unfold IntKind.wrap; simp [IntKind.signed, IntKind.bits]; omega
    by_cases c2 : 0 ≤ xp + by' ∧ xp + by' ≤ 20
    · have g1 : decide (by' < -xp) = false := by simp; omega
      have g2 : decide (20 - xp < by') = false := by simp; omega
      have ew : IntKind.i64.wrap (xp + by') = xp + by' := by unfold IntKind.wrap; simp [IntKind.signed, IntKind.bits]; omega
      have HAe : Hid (A = ⟨0, bu, gu, turnE (isKey key) (pinBy by') (tl.map Prod.fst), turnE (isKey key) (pinBy by') (kl.map Prod.fst)⟩) := by have := HA2.out; rw [if_neg (by simpa using c2)] at this; exact this
      clear c2 HA2
      have e0 := K3.out.2.1.c0
      have e1 := K3.out.2.1.c1
      have e2 := K3.out.2.1.c2
      have e3 := K3.out.2.1.c3
      obtain ⟨y0, y1⟩ := K3.out.2.2.2.2.1
      go_wp2_with fail
      refine (HSL.out _ _ _ _ K3.out.1 K3.out.2.2.2.1).mono ?_
      rintro r0 w4 ⟨⟨a1, k1, n1, a2, k2, n2, m1, m2, rfl, q1, q2, o⟩, hb4⟩
      obtain ⟨V4, hV4⟩ : ∃ V, V = w4.alloc (.cells #[.int .i64 bu, .int .i64 gu, .slice a1 n1 k1, .slice a2 n2 k2] 38) := ⟨_, rfl⟩
      have HV4 : Hid (V4 = w4.alloc (.cells #[.int .i64 bu, .int .i64 gu, .slice a1 n1 k1, .slice a2 n2 k2] 38)) := hV4
      have aV4 : Below w4.heap.size w4 V4 := by rw [hV4]; exact (Below.refl _ _).alloc (Nat.le_refl _) _
      have bV4 : Below w3.heap.size w3 V4 := hb4.trans (aV4.mono hb4.size)
      have K4 : Hid (Below w.heap.size w V4 ∧ S5 V4 (w.heap.size + 1) (.int .i64 0) (.int .i64 0) (.int .i64 0) (.slice none 0 0) (.slice none 0 0) ∧ S4 V4 w4.heap.size (.int .i64 bu) (.int .i64 gu) (.slice a1 n1 k1) (.slice a2 n2 k2) ∧ StoLV V4 w3.heap.size (.slice a1 n1 k1) (.slice a2 n2 k2) m1 m2 ∧ (w4.heap.size ∉ fp (.slice a1 n1 k1) m1 ∧ w4.heap.size ∉ fp (.slice a2 n2 k2) m2) ∧ w.heap.size + 2 ≤ w3.heap.size ∧ w3.heap.size ≤ V4.heap.size) := ⟨K3.out.1.trans (bV4.mono K3.out.1.size), K3.out.2.2.1.keep bV4, by rw [hV4]; exact S4.new w4 _ _ _ _ _, o.below aV4, ⟨fun h => by have := o.t.lt h; omega, fun h => by have := o.k.lt h; omega⟩, K3.out.2.2.2.2.2, bV4.size⟩
      have HQ : Hid (m1.map Prod.fst = tl.map Prod.fst ∧ m2.map Prod.fst = kl.map Prod.fst) := ⟨q1, q2⟩
      have CS2 := HS2.out V4 _ a1 k1 n1 a2 k2 n2 m1 m2 q1 q2 K4.out.2.2.2.1
      clear hV4 aV4 bV4 hb4 o q1 q2 K3 HSL HS2 e0 e1 e2 e3 y0 y1 yp g1 g2 en es
      go_wp2_with fail
      rw [← HV4.out]
      refine CS2.mono ?_
      rintro r0 w5 ⟨⟨f1, f2, rfl, CF⟩, hb5⟩
      have K5 : Hid (Below w.heap.size w w5 ∧ S5 w5 (w.heap.size + 1) (.int .i64 0) (.int .i64 0) (.int .i64 0) (.slice none 0 0) (.slice none 0 0) ∧ S4 w5 w4.heap.size (.int .i64 bu) (.int .i64 gu) (.slice a1 n1 k1) (.slice a2 n2 k2) ∧ (w4.heap.size ∉ fp (.slice a1 n1 k1) m1 ∧ w4.heap.size ∉ fp (.slice a2 n2 k2) m2) ∧ w.heap.size + 2 ≤ w3.heap.size ∧ w3.heap.size ≤ w5.heap.size) := ⟨K4.out.1.trans (hb5.mono K4.out.1.size), K4.out.2.1.keep hb5, K4.out.2.2.1.keep hb5, K4.out.2.2.2.2.1, K4.out.2.2.2.2.2.1, by have := K4.out.2.2.2.2.2.2; have := hb5.size; omega⟩
      clear K4 hb5 CS2 HV4
      go_wp2_with fail
      refine CF.mono ?_
      rintro r0 w6 ⟨⟨qb, qo, rfl, yq, yf, hqb, hqf, o6⟩, hb6⟩
      have K6 : Hid (Below w.heap.size w (w6.setCell ⟨qb, qo + 12, none⟩ (.int .i64 (xp + by'))) ∧ S5 (w6.setCell ⟨qb, qo + 12, none⟩ (.int .i64 (xp + by'))) (w.heap.size + 1) (.int .i64 0) (.int .i64 0) (.int .i64 0) (.slice none 0 0) (.slice none 0 0) ∧ S4 (w6.setCell ⟨qb, qo + 12, none⟩ (.int .i64 (xp + by'))) w4.heap.size (.int .i64 bu) (.int .i64 gu) (.slice a1 n1 k1) (.slice a2 n2 k2) ∧ StoLV (w6.setCell ⟨qb, qo + 12, none⟩ (.int .i64 (xp + by'))) w3.heap.size (.slice a1 n1 k1) (.slice a2 n2 k2) (turnM (isKey key) (pinBy by') m1) (turnM (isKey key) (pinBy by') m2) ∧ w.heap.size + 2 ≤ w3.heap.size) := by
        obtain ⟨k1, k2, k3, k4, k5, k6⟩ := K5.out
        refine ⟨(k1.trans (hb6.mono k1.size)).setCell (by simp only; omega) _, (k2.keep hb6).off (by omega), (k3.keep hb6).off (fun e => ?_), o6, k5⟩
        subst e
        rcases hqf with h | h
        · exact k4.1 h
        · exact k4.2 h
      have hs5 := K6.out.2.1
      have s3 := K6.out.2.2.1
      have z0 := hs5.c0
      have z1 := hs5.c1
      have z2 := hs5.c2
      have z3 := hs5.c3
      have z4 := hs5.c4
      have zf0 := hs5.fr 0
      have zf1 := hs5.fr 1
      have zf2 := hs5.fr 2
      have zf3 := hs5.fr 3
      have zf4 := hs5.fr 4
      have y0 := s3.c0
      have y1 := s3.c1
      have y2 := s3.c2
      have y3 := s3.c3
      clear hs5 s3 hqb hqf o6 hb6 K5 CF
      go_wp2_with fail
      refine bodyPost_ret (v := .agg #[.int .i64 0, .int .i64 bu, .int .i64 gu, .slice a1 n1 k1, .slice a2 n2 k2]) (by simp [results, Tryz.results38, go_sem, z0, z1, z2, z3, z4]) rfl ?_
      have hlt : w.heap.size + 1 < w3.heap.size := by have := K6.out.2.2.2.2; omega
      exact ⟨(StoAns.got (((((K6.out.2.2.2.1.off1 _ hlt).off1 _ hlt).off1 _ hlt).off1 _ hlt).off1 _ hlt) (Nat.le_trans (Nat.le_succ _) (Nat.le_of_lt hlt)) (by rw [turnM_fst, HQ.out.1]) (by rw [turnM_fst, HQ.out.2])).of HAe.out, ((((K6.out.1.setCell (by simp) _).setCell (by simp) _).setCell (by simp) _).setCell (by simp) _).setCell (by simp) _⟩
    · have HAe : Hid (A = badA 3) := by have := HA2.out; rw [if_pos c2] at this; exact this
      have HB : Hid (Below w.heap.size w w3) := K3.out.1
      have hs5 := K3.out.2.2.1
      have z0 := hs5.c0
      have z1 := hs5.c1
      have z2 := hs5.c2
      have z3 := hs5.c3
      have z4 := hs5.c4
      have zf0 := hs5.fr 0
      have zf1 := hs5.fr 1
      have zf2 := hs5.fr 2
      have zf3 := hs5.fr 3
      have zf4 := hs5.fr 4
      clear HA2 K3 hs5 HSL HS2
      by_cases c3 : by' < -xp
      · have g1 : decide (by' < -xp) = true := by simp; omega
        clear c2
        go_wp2_with fail
        refine bodyPost_ret (v := .agg #[.int .i64 3, .int .i64 0, .int .i64 0, .slice none 0 0, .slice none 0 0]) (by simp [results, Tryz.results38, go_sem, z0, z1, z2, z3, z4]) rfl ?_
        exact ⟨(StoAns.bad _ _ _).of HAe.out, ((((HB.out.setCell (by simp) _).setCell (by simp) _).setCell (by simp) _).setCell (by simp) _).setCell (by simp) _⟩
      · have g1 : decide (by' < -xp) = false := by simp; omega
        have g2 : decide (20 - xp < by') = true := by simp; omega
        clear c2
        go_wp2_with fail
        refine bodyPost_ret (v := .agg #[.int .i64 3, .int .i64 0, .int .i64 0, .slice none 0 0, .slice none 0 0]) (by simp [results, Tryz.results38, go_sem, z0, z1, z2, z3, z4]) rfl ?_
        exact ⟨(StoAns.bad _ _ _).of HAe.out, ((((HB.out.setCell (by simp) _).setCell (by simp) _).setCell (by simp) _).setCell (by simp) _).setCell (by simp) _⟩
  · have HAe : Hid (A = badA c) := by have := HA.out; rw [if_pos hc] at this; exact this.symm
    clear HA HP HSO HX2 HTH HTS htn hkn HL1
    go_enter Tryz.func38, Tryz.ntmps38
    go_wp2_with fail
    rw [← HW.out]
    refine (HKF.out _ K0.out.1).mono ?_
    rintro r0 w1 ⟨rfl, hb1⟩
    have HB : Hid (Below w.heap.size w w1) := K0.out.1.trans (hb1.mono K0.out.1.size)
    have hs5 := K0.out.2.2.1.keep hb1
    have z0 := hs5.c0
    have z1 := hs5.c1
    have z2 := hs5.c2
    have z3 := hs5.c3
    have z4 := hs5.c4
    have zf0 := hs5.fr 0
    have zf1 := hs5.fr 1
    have zf2 := hs5.fr 2
    have zf3 := hs5.fr 3
    have zf4 := hs5.fr 4
    clear K0 HW hb1 HKF e0 e1 e2 e3 hs5
    go_wp2_with fail
    refine bodyPost_ret (v := .agg #[.int .i64 c, .int .i64 0, .int .i64 0, .slice none 0 0, .slice none 0 0]) (by simp [results, Tryz.results38, go_sem, z0, z1, z2, z3, z4]) rfl ?_
    exact ⟨(StoAns.bad _ _ _).of HAe.out, ((((HB.out.setCell (by simp) _).setCell (by simp) _).setCell (by simp) _).setCell (by simp) _).setCell (by simp) _⟩
end Go.Proofs.YtmidfgjnaebfiaaGreatDoor
/-
  Head lines that came in, opened.
-/
namespace Go.Proofs.YtmidfgjnaebfiaaGreatDoor
open Go.ChangeShapes Go.WideShapes Go.ChangeAt Go.RowKit Go.Deep
theorem headerCells : Tryz.prog.cellsOf 171 = 2 := by kernel_rfl
theorem hOneS : Tryz.prog.cellsOf 9 = 1 := by kernel_rfl
theorem hdr_of {H : Type} {enc : TypeId × Value → H} {w : World} {base : Nat} {spare : Nat → Bool} {held : Bool} {fuel : Nat} {cs : List Value} {x : DataW H × List MemPlace}
    (h : DataW.trod enc Tryz.prog w base spare held fuel 171 cs = some x) : ∃ r : Hdr, cs = [.string r.name, .string r.value] ∧ r.name.size ≤ maxLen ∧ r.value.size ≤ maxLen := by
  obtain ⟨y0, y1, n, _, hl, h0, h2⟩ := trod_struct2 Tryz.underlying171 h
  rw [headerCells] at hl
  simp only [hOneS] at h0 h2
  obtain ⟨s0, e0, _, z0⟩ := DataW.trod_string Tryz.underlying9 h0
  obtain ⟨s2, e2, _, z2⟩ := DataW.trod_string Tryz.underlying9 h2
  match cs, hl with
  | [c0, c2], _ =>
    simp only [List.drop_zero, List.take_succ_cons, List.take_zero, List.drop_succ_cons, List.cons.injEq, and_true] at e0 e2
    exact ⟨⟨s0, s2⟩, by rw [e0, e2], z0, z2⟩
theorem open_headers {H : Type} {enc : TypeId × Value → H} {w : World} {base : Nat} {spare : Nat → Bool} {held : Bool} {fuel : Nat} {a : Option Addr} {len cap : Nat} {x : DataW H × List MemPlace}
    (h : DataW.trod enc Tryz.prog w base spare held fuel 50 [.slice a len cap] = some x) :
    ∃ l : List Hdr, l.length = len ∧ len ≤ maxLen ∧ SmallHdrs l ∧ (l = [] ∨ ∃ b off, a = some ⟨b, off, none⟩ ∧ HeadsAt w b off l) := by
  rcases open_slice Tryz.underlying50 h with ⟨hcs, _⟩ | ⟨A, len', cap', m, n, D, Pl, hcs, _, hl, hm, hmm, _, hel⟩
  · simp only [List.cons.injEq, Value.slice.injEq, and_true] at hcs
    obtain ⟨_, rfl, _⟩ := hcs
    exact ⟨[], rfl, by unfold maxLen; omega, fun i r hr => by simp at hr, .inl rfl⟩
  · simp only [List.cons.injEq, Value.slice.injEq, and_true] at hcs
    obtain ⟨rfl, rfl, rfl⟩ := hcs
    have hlm : len ≤ m := by rw [hmm]; split <;> omega
    have hrec : ∀ i, i < len → ∃ r : Hdr, w.cells? base (A.add (i * 2)) 2 = some [.string r.name, .string r.value] ∧ r.name.size ≤ maxLen ∧ r.value.size ≤ maxLen := by
      intro i hi
      obtain ⟨cs', hc, ht⟩ := hel i (by omega)
      rw [headerCells] at hc
      obtain ⟨r, rfl, z⟩ := hdr_of ht
      exact ⟨r, hc, z⟩
    obtain ⟨f, hf⟩ : ∃ f : Nat → Hdr, ∀ i, i < len → w.cells? base (A.add (i * 2)) 2 = some [.string (f i).name, .string (f i).value] ∧ (f i).name.size ≤ maxLen ∧ (f i).value.size ≤ maxLen := by
      classical
      refine ⟨fun i => if hi : i < len then (hrec i hi).choose else ⟨.empty, .empty⟩, fun i hi => ?_⟩
      simp only [dif_pos hi]
      exact (hrec i hi).choose_spec
    refine ⟨(List.range len).map f, by simp, by omega, ?_, ?_⟩
    · intro i r hr
      rw [List.getElem?_map] at hr
      obtain ⟨j, hj, rfl⟩ := Option.map_eq_some_iff.1 hr
      obtain ⟨hlt, rfl⟩ := List.getElem?_eq_some_iff.1 hj
      simp at hlt
      simpa using (hf i hlt).2
    · by_cases h0 : len = 0
      · subst h0; exact .inl rfl
      · obtain ⟨b, off, spot⟩ := A
        have cells : ∀ i, i < len → ∀ j, j < 2 → w.cell? ((⟨b, off, spot⟩ : Addr).add (i * 2 + j)) = ([.string (f i).name, .string (f i).value] : List Value)[j]? := by
          intro i hi j hj
          have c := (World.cells?_some (hf i hi).1).2.2 j hj
          rw [add_add] at c
          exact c
        have hs : spot = none := by
          have c := cells 0 (by omega) 0 (by omega)
          simp only [Nat.zero_mul, Nat.add_zero, List.getElem?_cons_zero] at c
          simpa [Addr.add] using World.cell?_spot c
        subst hs
        have hadd : ∀ i, (⟨b, off, none⟩ : Addr).add i = ⟨b, off + i, none⟩ := fun i => by unfold Addr.add; split <;> simp_all
        refine .inr ⟨b, off, rfl, fun i r hr => ?_⟩
        rw [List.getElem?_map] at hr
        obtain ⟨j, hj, rfl⟩ := Option.map_eq_some_iff.1 hr
        obtain ⟨hlt, rfl⟩ := List.getElem?_eq_some_iff.1 hj
        simp only [List.length_range] at hlt
        simp only [List.getElem_range]
        have q0 := cells i hlt 0 (by omega)
        have q1 := cells i hlt 1 (by omega)
        rw [hadd] at q0 q1
        exact ⟨by simpa using q0, by simpa [Nat.add_assoc] using q1⟩
end Go.Proofs.YtmidfgjnaebfiaaGreatDoor
/-
  A request and a response that came in by value, opened.
-/
namespace Go.Proofs.YtmidfgjnaebfiaaGreatDoor
open Go.ChangeShapes Go.WideShapes Go.ChangeAt Go.RowKit Go.Deep
theorem headsOne : Tryz.prog.cellsOf 50 = 1 := by kernel_rfl
theorem slice_cs {H : Type} {enc : TypeId × Value → H} {w : World} {base : Nat} {spare : Nat → Bool} {held : Bool} {fuel : Nat} {cs : List Value} {t e : TypeId} {x : DataW H × List MemPlace}
    (hu : Tryz.prog.underlying t = some (.slice e)) (h : DataW.trod enc Tryz.prog w base spare held fuel t cs = some x) : ∃ a len cap, cs = [.slice a len cap] := by
  rcases open_slice hu h with ⟨hcs, _⟩ | ⟨A, len', cap', m, n, D, Pl, hcs, _⟩
  · exact ⟨_, _, _, hcs⟩
  · exact ⟨_, _, _, hcs⟩
end Go.Proofs.YtmidfgjnaebfiaaGreatDoor
/-
  A response, a row of bytes, a list of texts that came in, opened.
-/
namespace Go.Proofs.YtmidfgjnaebfiaaGreatDoor
open Go.ChangeShapes Go.WideShapes Go.ChangeAt Go.RowKit Go.Deep
theorem bytesOne : Tryz.prog.cellsOf 5 = 1 := by kernel_rfl
theorem open_bytes {H : Type} {enc : TypeId × Value → H} {w : World} {base : Nat} {spare : Nat → Bool} {held : Bool} {fuel : Nat} {a : Option Addr} {len cap : Nat} {x : DataW H × List MemPlace}
    (h : DataW.trod enc Tryz.prog w base spare held fuel 27 [.slice a len cap] = some x) : ∃ l : List UInt8, l.length = len ∧ len ≤ maxLen ∧ BIn w a l := by
  rcases open_ints Tryz.underlying27 Tryz.underlying5 bytesOne h with ⟨hcs, _⟩ | ⟨A, l', c', zs, hcs, _, hl, hm, hz, _, hcell, hwz⟩
  · simp only [List.cons.injEq, Value.slice.injEq, and_true] at hcs
    obtain ⟨_, rfl, _⟩ := hcs
    exact ⟨[], rfl, by unfold maxLen; omega, .inl rfl⟩
  · simp only [List.cons.injEq, Value.slice.injEq, and_true] at hcs
    obtain ⟨rfl, rfl, rfl⟩ := hcs
    have hlz : len ≤ zs.length := by rw [hz]; split <;> omega
    refine ⟨(zs.take len).map fun z => UInt8.ofNat z.toNat, by simp; omega, by omega, ?_⟩
    by_cases h0 : len = 0
    · subst h0; exact .inl rfl
    · obtain ⟨b, off, spot⟩ := A
      have hc := hcell 0 (by omega)
      have hspot : spot = none := by simpa [Addr.add] using World.cell?_spot hc
      subst hspot
      have hadd : ∀ i, (⟨b, off, none⟩ : Addr).add i = ⟨b, off + i, none⟩ := fun i => by unfold Addr.add; split <;> simp_all
      refine .inr ⟨b, off, rfl, fun i c hr => ?_⟩
      rw [List.getElem?_map] at hr
      obtain ⟨z, hz1, rfl⟩ := Option.map_eq_some_iff.1 hr
      have hi : i < len := by have := (List.getElem?_eq_some_iff.1 hz1).1; simp at this; omega
      rw [List.getElem?_take_of_lt hi] at hz1
      have h1 := hcell i (by omega)
      rw [hadd, List.getD_eq_getElem?_getD, hz1] at h1
      rw [h1]
      have hw := hwz z (List.mem_of_getElem? hz1)
      simp only [Lit.wf, Bool.and_eq_true, decide_eq_true_eq] at hw
      have w1 : 0 ≤ z := hw.1
      have w2 : z ≤ 255 := hw.2
      have e : ((UInt8.ofNat z.toNat).toNat : Int) = z := by
        rw [UInt8.toNat_ofNat']
        omega
      rw [e]; rfl
theorem byteSOne : Tryz.prog.cellsOf 27 = 1 := by kernel_rfl
theorem intOne : Tryz.prog.cellsOf 2 = 1 := by kernel_rfl
end Go.Proofs.YtmidfgjnaebfiaaGreatDoor
/-
  A list of texts that came in, opened.
-/
namespace Go.Proofs.YtmidfgjnaebfiaaGreatDoor
open Go.ChangeShapes Go.WideShapes Go.ChangeAt Go.RowKit Go.Deep
theorem textOne : Tryz.prog.cellsOf 9 = 1 := by kernel_rfl
theorem open_texts {H : Type} {enc : TypeId × Value → H} {w : World} {base : Nat} {spare : Nat → Bool} {held : Bool} {fuel : Nat} {a : Option Addr} {len cap : Nat} {x : DataW H × List MemPlace}
    (h : DataW.trod enc Tryz.prog w base spare held fuel 30 [.slice a len cap] = some x) : ∃ l : List ByteArray, l.length = len ∧ len ≤ maxLen ∧ (∀ x ∈ l, x.size ≤ maxLen) ∧ TIn w a l := by
  rcases open_slice Tryz.underlying30 h with ⟨hcs, _⟩ | ⟨A, len', cap', m, n, D, Pl, hcs, _, hl, hm, hmm, _, hel⟩
  · simp only [List.cons.injEq, Value.slice.injEq, and_true] at hcs
    obtain ⟨_, rfl, _⟩ := hcs
    exact ⟨[], rfl, by unfold maxLen; omega, (fun x hx => by cases hx), .inl rfl⟩
  · simp only [List.cons.injEq, Value.slice.injEq, and_true] at hcs
    obtain ⟨rfl, rfl, rfl⟩ := hcs
    have hlm : len ≤ m := by rw [hmm]; split <;> omega
    have hrec : ∀ i, i < len → ∃ r : ByteArray, w.cells? base (A.add (i * 1)) 1 = some [.string r] ∧ r.size ≤ maxLen := by
      intro i hi
      obtain ⟨cs', hc, ht⟩ := hel i (by omega)
      rw [textOne] at hc
      obtain ⟨r, e, _, z⟩ := DataW.trod_string Tryz.underlying9 ht
      exact ⟨r, by rw [hc, e], z⟩
    obtain ⟨f, hf⟩ : ∃ f : Nat → ByteArray, ∀ i, i < len → w.cells? base (A.add (i * 1)) 1 = some [.string (f i)] ∧ (f i).size ≤ maxLen := by
      classical
      refine ⟨fun i => if hi : i < len then (hrec i hi).choose else .empty, fun i hi => ?_⟩
      simp only [dif_pos hi]
      exact (hrec i hi).choose_spec
    refine ⟨(List.range len).map f, by simp, by omega, ?_, ?_⟩
    · intro x hx
      obtain ⟨i, hi, rfl⟩ := List.mem_map.1 hx
      exact (hf i (by simpa using hi)).2
    · by_cases h0 : len = 0
      · subst h0; exact .inl rfl
      · obtain ⟨b, off, spot⟩ := A
        have cells : ∀ i, i < len → w.cell? ((⟨b, off, spot⟩ : Addr).add i) = some (.string (f i)) := by
          intro i hi
          have c := (World.cells?_some (hf i hi).1).2.2 0 (by omega)
          rw [add_add] at c
          simpa using c
        have hs : spot = none := by
          have c := cells 0 (by omega)
          simpa [Addr.add] using World.cell?_spot c
        subst hs
        have hadd : ∀ i, (⟨b, off, none⟩ : Addr).add i = ⟨b, off + i, none⟩ := fun i => by unfold Addr.add; split <;> simp_all
        refine .inr ⟨b, off, rfl, fun i r hr => ?_⟩
        rw [List.getElem?_map] at hr
        obtain ⟨j, hj, rfl⟩ := Option.map_eq_some_iff.1 hr
        obtain ⟨hlt, rfl⟩ := List.getElem?_eq_some_iff.1 hj
        simp only [List.length_range] at hlt
        simp only [List.getElem_range]
        have q0 := cells i hlt
        rw [hadd] at q0
        exact q0
end Go.Proofs.YtmidfgjnaebfiaaGreatDoor
/-
  What is kept with an answer, as it came in by value, opened.
-/
namespace Go.Proofs.YtmidfgjnaebfiaaGreatDoor
open Go.ChangeShapes Go.WideShapes Go.ChangeAt Go.RowKit
theorem metaCells : Tryz.prog.cellsOf 51 = 7 := by kernel_rfl
theorem oneIm : Tryz.prog.cellsOf 2 = 1 := by kernel_rfl
theorem oneBm : Tryz.prog.cellsOf 4 = 1 := by kernel_rfl
set_option maxRecDepth 100000 in
theorem open_meta {H : Type} {enc : TypeId × Value → H} {w : World} {r : Reach} {b0 base : Nat} {spare : Nat → Bool} {held : Bool} {v : Value} {d : DataW H} {p : List MemPlace}
    (hv : Value.okWide Tryz.prog w r b0 51 v) (h : DataW.Trod enc Tryz.prog w base spare held 51 v d p) :
    ∃ (u : Int × Int × Int × Int × Int) (t : Bool × Bool), v = .agg #[.int .i64 u.1, .int .i64 u.2.1, .int .i64 u.2.2.1, .int .i64 u.2.2.2.1, .int .i64 u.2.2.2.2, .bool t.1, .bool t.2] := by
  obtain ⟨cs, rfl, hsz⟩ := okWide_struct Tryz.underlying51 hv
  obtain ⟨fuel, hf0⟩ := h
  obtain ⟨xs, n, _, _, hl, hlen, hf⟩ := DataW.trod_struct Tryz.underlying51 hf0
  match xs, hlen with
  | [y0, y1, y2, y3, y4, y5, y6], _ =>
    have h0 : DataW.trod enc Tryz.prog w base spare held n 2 (((Value.agg cs).cells.toList.drop 0).take (Tryz.prog.cellsOf 2)) = some y0 := hf 0 _ rfl
    have h1 : DataW.trod enc Tryz.prog w base spare held n 2 (((Value.agg cs).cells.toList.drop 1).take (Tryz.prog.cellsOf 2)) = some y1 := hf 1 _ rfl
    have h2 : DataW.trod enc Tryz.prog w base spare held n 2 (((Value.agg cs).cells.toList.drop 2).take (Tryz.prog.cellsOf 2)) = some y2 := hf 2 _ rfl
    have h3 : DataW.trod enc Tryz.prog w base spare held n 2 (((Value.agg cs).cells.toList.drop 3).take (Tryz.prog.cellsOf 2)) = some y3 := hf 3 _ rfl
    have h4 : DataW.trod enc Tryz.prog w base spare held n 2 (((Value.agg cs).cells.toList.drop 4).take (Tryz.prog.cellsOf 2)) = some y4 := hf 4 _ rfl
    have h5 : DataW.trod enc Tryz.prog w base spare held n 4 (((Value.agg cs).cells.toList.drop 5).take (Tryz.prog.cellsOf 4)) = some y5 := hf 5 _ rfl
    have h6 : DataW.trod enc Tryz.prog w base spare held n 4 (((Value.agg cs).cells.toList.drop 6).take (Tryz.prog.cellsOf 4)) = some y6 := hf 6 _ rfl
    rw [oneIm] at h0 h1 h2 h3 h4
    rw [oneBm] at h5 h6
    obtain ⟨s0, e0, _⟩ := DataW.trod_int Tryz.underlying2 h0
    obtain ⟨s1, e1, _⟩ := DataW.trod_int Tryz.underlying2 h1
    obtain ⟨s2, e2, _⟩ := DataW.trod_int Tryz.underlying2 h2
    obtain ⟨s3, e3, _⟩ := DataW.trod_int Tryz.underlying2 h3
    obtain ⟨s4, e4, _⟩ := DataW.trod_int Tryz.underlying2 h4
    obtain ⟨s5, e5, _⟩ := DataW.trod_bool Tryz.underlying4 h5
    obtain ⟨s6, e6, _⟩ := DataW.trod_bool Tryz.underlying4 h6
    refine ⟨(s0, s1, s2, s3, s4), (s5, s6), ?_⟩
    have e : cs.toList = [.int .i64 s0, .int .i64 s1, .int .i64 s2, .int .i64 s3, .int .i64 s4, .bool s5, .bool s6] := by
      simp only [Value.cells] at e0 e1 e2 e3 e4 e5 e6 hl
      rw [metaCells] at hl
      match hc : cs.toList, hl with
      | [c0, c1, c2, c3, c4, c5, c6], _ =>
        rw [hc] at e0 e1 e2 e3 e4 e5 e6
        simp only [List.drop_zero, List.take_succ_cons, List.take_zero, List.drop_succ_cons, List.cons.injEq, and_true] at e0 e1 e2 e3 e4 e5 e6
        rw [e0, e1, e2, e3, e4, e5, e6]
    congr 1
    exact Array.toList_inj.1 e
end Go.Proofs.YtmidfgjnaebfiaaGreatDoor
/-
  An entry that came in, and entries, opened.
-/
namespace Go.Proofs.YtmidfgjnaebfiaaGreatDoor
open Go.ChangeShapes Go.WideShapes Go.ChangeAt Go.RowKit Go.Deep
theorem entCells : Tryz.prog.cellsOf 53 = 13 := by kernel_rfl
theorem eOneS : Tryz.prog.cellsOf 9 = 1 := by kernel_rfl
theorem eOneI : Tryz.prog.cellsOf 2 = 1 := by kernel_rfl
theorem eOneB : Tryz.prog.cellsOf 4 = 1 := by kernel_rfl
theorem eOneH : Tryz.prog.cellsOf 50 = 1 := by kernel_rfl
theorem eOneU : Tryz.prog.cellsOf 27 = 1 := by kernel_rfl
theorem eOneT : Tryz.prog.cellsOf 30 = 1 := by kernel_rfl
theorem eMeta : Tryz.prog.cellsOf 51 = 7 := by kernel_rfl
theorem slice_cap {H : Type} {enc : TypeId × Value → H} {P : Program} {w : World} {base : Nat} {spare : Nat → Bool} {held : Bool} {fuel : Nat} {t e : TypeId} {a : Option Addr} {n c : Nat} {x : DataW H × List MemPlace} (ht : P.underlying t = some (.slice e))
    (h : DataW.trod enc P w base spare held fuel t [.slice a n c] = some x) : n ≤ c := by
  rcases open_slice ht h with ⟨hcs, _⟩ | ⟨A, len', cap', m, n', D, Pl, hcs, _, hl, _⟩
  · simp only [List.cons.injEq, Value.slice.injEq, and_true] at hcs
    omega
  · simp only [List.cons.injEq, Value.slice.injEq, and_true] at hcs
    omega
set_option maxRecDepth 100000 in
theorem meta_cs {H : Type} {enc : TypeId × Value → H} {w : World} {base : Nat} {spare : Nat → Bool} {held : Bool} {fuel : Nat} {cs : List Value} {x : DataW H × List MemPlace}
    (h : DataW.trod enc Tryz.prog w base spare held fuel 51 cs = some x) : ∃ (t g l s e : Int) (b1 b2 : Bool), cs = [.int .i64 t, .int .i64 g, .int .i64 l, .int .i64 s, .int .i64 e, .bool b1, .bool b2] := by
  obtain ⟨xs, n, _, _, hl, hlen, hf⟩ := DataW.trod_struct Tryz.underlying51 h
  match xs, hlen with
  | [y0, y1, y2, y3, y4, y5, y6], _ =>
    have h0 : DataW.trod enc Tryz.prog w base spare held n 2 ((cs.drop 0).take (Tryz.prog.cellsOf 2)) = some y0 := hf 0 _ rfl
    have h1 : DataW.trod enc Tryz.prog w base spare held n 2 ((cs.drop 1).take (Tryz.prog.cellsOf 2)) = some y1 := hf 1 _ rfl
    have h2 : DataW.trod enc Tryz.prog w base spare held n 2 ((cs.drop 2).take (Tryz.prog.cellsOf 2)) = some y2 := hf 2 _ rfl
    have h3 : DataW.trod enc Tryz.prog w base spare held n 2 ((cs.drop 3).take (Tryz.prog.cellsOf 2)) = some y3 := hf 3 _ rfl
    have h4 : DataW.trod enc Tryz.prog w base spare held n 2 ((cs.drop 4).take (Tryz.prog.cellsOf 2)) = some y4 := hf 4 _ rfl
    have h5 : DataW.trod enc Tryz.prog w base spare held n 4 ((cs.drop 5).take (Tryz.prog.cellsOf 4)) = some y5 := hf 5 _ rfl
    have h6 : DataW.trod enc Tryz.prog w base spare held n 4 ((cs.drop 6).take (Tryz.prog.cellsOf 4)) = some y6 := hf 6 _ rfl
    rw [eOneI] at h0 h1 h2 h3 h4
    rw [eOneB] at h5 h6
    obtain ⟨s0, e0, _⟩ := DataW.trod_int Tryz.underlying2 h0
    obtain ⟨s1, e1, _⟩ := DataW.trod_int Tryz.underlying2 h1
    obtain ⟨s2, e2, _⟩ := DataW.trod_int Tryz.underlying2 h2
    obtain ⟨s3, e3, _⟩ := DataW.trod_int Tryz.underlying2 h3
    obtain ⟨s4, e4, _⟩ := DataW.trod_int Tryz.underlying2 h4
    obtain ⟨s5, e5, _⟩ := DataW.trod_bool Tryz.underlying4 h5
    obtain ⟨s6, e6, _⟩ := DataW.trod_bool Tryz.underlying4 h6
    refine ⟨s0, s1, s2, s3, s4, s5, s6, ?_⟩
    rw [eMeta] at hl
    match cs, hl with
    | [c0, c1, c2, c3, c4, c5, c6], _ =>
      simp only [List.drop_zero, List.take_succ_cons, List.take_zero, List.drop_succ_cons, List.cons.injEq, and_true] at e0 e1 e2 e3 e4 e5 e6
      rw [e0, e1, e2, e3, e4, e5, e6]
set_option maxRecDepth 100000 in
theorem ent_of {H : Type} {enc : TypeId × Value → H} {w : World} {base : Nat} {spare : Nat → Bool} {held : Bool} {fuel : Nat} {cs : List Value} {x : DataW H × List MemPlace}
    (h : DataW.trod enc Tryz.prog w base spare held fuel 53 cs = some x) : ∃ (q : Ent) (r : EntR), cs = entW q r ∧ EntIn w q r ∧ EntSm q := by
  obtain ⟨xs, n, _, _, hl, hlen, hf⟩ := DataW.trod_struct Tryz.underlying53 h
  match xs, hlen with
  | [y0, y1, y2, y3, y4, y5, y6], _ =>
    have h0 : DataW.trod enc Tryz.prog w base spare held n 9 ((cs.drop 0).take (Tryz.prog.cellsOf 9)) = some y0 := hf 0 _ rfl
    have h1 : DataW.trod enc Tryz.prog w base spare held n 2 ((cs.drop 1).take (Tryz.prog.cellsOf 2)) = some y1 := hf 1 _ rfl
    have h2 : DataW.trod enc Tryz.prog w base spare held n 50 ((cs.drop 2).take (Tryz.prog.cellsOf 50)) = some y2 := hf 2 _ rfl
    have h3 : DataW.trod enc Tryz.prog w base spare held n 27 ((cs.drop 3).take (Tryz.prog.cellsOf 27)) = some y3 := hf 3 _ rfl
    have h4 : DataW.trod enc Tryz.prog w base spare held n 51 ((cs.drop 4).take (Tryz.prog.cellsOf 51)) = some y4 := hf 4 _ rfl
    have h5 : DataW.trod enc Tryz.prog w base spare held n 30 ((cs.drop 11).take (Tryz.prog.cellsOf 30)) = some y5 := hf 5 _ rfl
    have h6 : DataW.trod enc Tryz.prog w base spare held n 2 ((cs.drop 12).take (Tryz.prog.cellsOf 2)) = some y6 := hf 6 _ rfl
    rw [eOneS] at h0
    rw [eOneI] at h1 h6
    rw [eOneH] at h2
    rw [eOneU] at h3
    rw [eMeta] at h4
    rw [eOneT] at h5
    obtain ⟨s0, e0, _, z0⟩ := DataW.trod_string Tryz.underlying9 h0
    obtain ⟨s1, e1, _⟩ := DataW.trod_int Tryz.underlying2 h1
    obtain ⟨ha, hn, hc, e2⟩ := slice_cs Tryz.underlying50 h2
    rw [e2] at h2
    obtain ⟨l, rfl, m2, sm2, o2⟩ := open_headers h2
    obtain ⟨ba, bn, bc, e3⟩ := slice_cs Tryz.underlying27 h3
    rw [e3] at h3
    obtain ⟨bl, rfl, m3, o3⟩ := open_bytes h3
    obtain ⟨t, g, li, s, e, b1, b2, e4⟩ := meta_cs h4
    obtain ⟨ta, tn, tc, e5⟩ := slice_cs Tryz.underlying30 h5
    rw [e5] at h5
    obtain ⟨ts, rfl, m5, sm5, o5⟩ := open_texts h5
    obtain ⟨s6, e6, _⟩ := DataW.trod_int Tryz.underlying2 h6
    refine ⟨⟨s0, s1, l, bl, t, g, li, s, e, b1, b2, ts, s6⟩, ⟨ha, hc, ba, bc, ta, tc⟩, ?_, ⟨o2, o3, o5, slice_cap Tryz.underlying50 h2, slice_cap Tryz.underlying27 h3, slice_cap Tryz.underlying30 h5⟩, ⟨z0, m2, sm2, m3, m5, sm5⟩⟩
    rw [entCells] at hl
    match cs, hl with
    | [c0, c1, c2, c3, c4, c5, c6, c7, c8, c9, c10, c11, c12], _ =>
      simp only [List.drop_zero, List.take_succ_cons, List.take_zero, List.drop_succ_cons, List.cons.injEq, and_true] at e0 e1 e2 e3 e4 e5 e6
      obtain ⟨f4, f5, f6, f7, f8, f9, f10⟩ := e4
      rw [e0, e1, e2, e3, f4, f5, f6, f7, f8, f9, f10, e5, e6]
      rfl
set_option maxRecDepth 100000 in
theorem open_entry {H : Type} {enc : TypeId × Value → H} {w : World} {r : Reach} {b0 base : Nat} {spare : Nat → Bool} {held : Bool} {v : Value} {d : DataW H} {p : List MemPlace}
    (hv : Value.okWide Tryz.prog w r b0 53 v) (h : DataW.Trod enc Tryz.prog w base spare held 53 v d p) : ∃ (q : Ent) (r : EntR), v = entV q r ∧ EntIn w q r ∧ EntSm q := by
  obtain ⟨cs, rfl, hsz⟩ := okWide_struct Tryz.underlying53 hv
  obtain ⟨fuel, hf0⟩ := h
  obtain ⟨q, r, e, h1, h2⟩ := ent_of hf0
  refine ⟨q, r, ?_, h1, h2⟩
  simp only [Value.cells] at e
  show Value.agg cs = .agg _
  congr 1
  exact Array.toList_inj.1 e
set_option maxRecDepth 100000 in
theorem open_entries {H : Type} {enc : TypeId × Value → H} {w : World} {base : Nat} {spare : Nat → Bool} {held : Bool} {fuel : Nat} {a : Option Addr} {len cap : Nat} {x : DataW H × List MemPlace}
    (h : DataW.trod enc Tryz.prog w base spare held fuel 22 [.slice a len cap] = some x) :
    ∃ l : List (Ent × EntR), l.length = len ∧ len ≤ maxLen ∧ len ≤ cap ∧ (∀ q ∈ l, EntSm q.1) ∧ EntsIn w a l := by
  have hcap := slice_cap Tryz.underlying22 h
  rcases open_slice Tryz.underlying22 h with ⟨hcs, _⟩ | ⟨A, len', cap', m, n, D, Pl, hcs, _, hl, hm, hmm, _, hel⟩
  · simp only [List.cons.injEq, Value.slice.injEq, and_true] at hcs
    obtain ⟨_, rfl, _⟩ := hcs
    exact ⟨[], rfl, by unfold maxLen; omega, hcap, fun q hq => by simp at hq, .inl rfl⟩
  · simp only [List.cons.injEq, Value.slice.injEq, and_true] at hcs
    obtain ⟨rfl, rfl, rfl⟩ := hcs
    have hlm : len ≤ m := by rw [hmm]; split <;> omega
    have hrec : ∀ i, i < len → ∃ q : Ent × EntR, w.cells? base (A.add (i * 13)) 13 = some (entW q.1 q.2) ∧ EntIn w q.1 q.2 ∧ EntSm q.1 := by
      intro i hi
      obtain ⟨cs', hc, ht⟩ := hel i (by omega)
      rw [entCells] at hc
      obtain ⟨q, r, rfl, z⟩ := ent_of ht
      exact ⟨(q, r), hc, z⟩
    obtain ⟨f, hf⟩ : ∃ f : Nat → Ent × EntR, ∀ i, i < len → w.cells? base (A.add (i * 13)) 13 = some (entW (f i).1 (f i).2) ∧ EntIn w (f i).1 (f i).2 ∧ EntSm (f i).1 := by
      classical
      refine ⟨fun i => if hi : i < len then (hrec i hi).choose else (⟨.empty, 0, [], [], 0, 0, 0, 0, 0, false, false, [], 0⟩, ⟨none, 0, none, 0, none, 0⟩), fun i hi => ?_⟩
      simp only [dif_pos hi]
      exact (hrec i hi).choose_spec
    refine ⟨(List.range len).map f, by simp, by omega, hcap, ?_, ?_⟩
    · intro q hq
      obtain ⟨i, hi, rfl⟩ := List.mem_map.1 hq
      exact (hf i (by simpa using hi)).2.2
    · by_cases h0 : len = 0
      · subst h0; exact .inl rfl
      · obtain ⟨b, off, spot⟩ := A
        have cells : ∀ i, i < len → ∀ j, j < 13 → w.cell? ((⟨b, off, spot⟩ : Addr).add (i * 13 + j)) = (entW (f i).1 (f i).2)[j]? := by
          intro i hi j hj
          have c := (World.cells?_some (hf i hi).1).2.2 j hj
          rw [add_add] at c
          exact c
        have hs : spot = none := by
          have c := cells 0 (by omega) 0 (by omega)
          simp only [Nat.zero_mul, Nat.add_zero, entW, List.getElem?_cons_zero] at c
          simpa [Addr.add] using World.cell?_spot c
        subst hs
        have hadd : ∀ i, (⟨b, off, none⟩ : Addr).add i = ⟨b, off + i, none⟩ := fun i => by unfold Addr.add; split <;> simp_all
        refine .inr ⟨b, off, rfl, fun i q hq => ?_⟩
        rw [List.getElem?_map] at hq
        obtain ⟨j, hj, rfl⟩ := Option.map_eq_some_iff.1 hq
        obtain ⟨hlt, rfl⟩ := List.getElem?_eq_some_iff.1 hj
        simp only [List.length_range] at hlt
        simp only [List.getElem_range]
        refine ⟨fun j hj => ?_, (hf i hlt).2.1⟩
        have q0 := cells i hlt j hj
        rw [hadd, ← Nat.add_assoc] at q0
        exact q0
end Go.Proofs.YtmidfgjnaebfiaaGreatDoor
/-
  A store that came in, opened.
-/
namespace Go.Proofs.YtmidfgjnaebfiaaGreatDoor
open Go.ChangeShapes Go.WideShapes Go.ChangeAt Go.RowKit Go.Deep
theorem stoCells : Tryz.prog.cellsOf 24 = 4 := by kernel_rfl
theorem eOneE : Tryz.prog.cellsOf 22 = 1 := by kernel_rfl
set_option maxRecDepth 100000 in
theorem open_store {H : Type} {enc : TypeId × Value → H} {w : World} {r : Reach} {b0 base : Nat} {spare : Nat → Bool} {held : Bool} {v : Value} {d : DataW H} {p : List MemPlace}
    (hv : Value.okWide Tryz.prog w r b0 24 v) (h : DataW.Trod enc Tryz.prog w base spare held 24 v d p) : ∃ (bu gu : Int) (ta ka : Option Addr) (tc kc : Nat) (tl kl : List (Ent × EntR)), v = .agg #[.int .i64 bu, .int .i64 gu, .slice ta tl.length tc, .slice ka kl.length kc] ∧ StoArg w ta ka tl kl := by
  obtain ⟨cs, rfl, hsz⟩ := okWide_struct Tryz.underlying24 hv
  obtain ⟨fuel, hf0⟩ := h
  obtain ⟨xs, n, _, _, hl, hlen, hf⟩ := DataW.trod_struct Tryz.underlying24 hf0
  match xs, hlen with
  | [y0, y1, y2, y3], _ =>
    have h0 : DataW.trod enc Tryz.prog w base spare held n 2 ((cs.toList.drop 0).take (Tryz.prog.cellsOf 2)) = some y0 := hf 0 _ rfl
    have h1 : DataW.trod enc Tryz.prog w base spare held n 2 ((cs.toList.drop 1).take (Tryz.prog.cellsOf 2)) = some y1 := hf 1 _ rfl
    have h2 : DataW.trod enc Tryz.prog w base spare held n 22 ((cs.toList.drop 2).take (Tryz.prog.cellsOf 22)) = some y2 := hf 2 _ rfl
    have h3 : DataW.trod enc Tryz.prog w base spare held n 22 ((cs.toList.drop 3).take (Tryz.prog.cellsOf 22)) = some y3 := hf 3 _ rfl
    rw [eOneI] at h0 h1
    rw [eOneE] at h2 h3
    obtain ⟨s0, e0, _⟩ := DataW.trod_int Tryz.underlying2 h0
    obtain ⟨s1, e1, _⟩ := DataW.trod_int Tryz.underlying2 h1
    obtain ⟨ta, tn, tc, e2⟩ := slice_cs Tryz.underlying22 h2
    rw [e2] at h2
    obtain ⟨tl, rfl, m2, _, sm2, o2⟩ := open_entries h2
    obtain ⟨ka, kn, kc, e3⟩ := slice_cs Tryz.underlying22 h3
    rw [e3] at h3
    obtain ⟨kl, rfl, m3, _, sm3, o3⟩ := open_entries h3
    refine ⟨s0, s1, ta, ka, tc, kc, tl, kl, ?_, ⟨o2, o3, m2, m3, sm2, sm3⟩⟩
    have hl' : cs.toList.length = 4 := by rw [stoCells] at hl; exact hl
    have key : cs.toList = [.int .i64 s0, .int .i64 s1, .slice ta tl.length tc, .slice ka kl.length kc] := by
      generalize cs.toList = c at *
      match c, hl' with
      | [c0, c1, c2, c3], _ =>
        simp only [List.drop_zero, List.take_succ_cons, List.take_zero, List.drop_succ_cons, List.cons.injEq, and_true] at e0 e1 e2 e3
        rw [e0, e1, e2, e3]
    show Value.agg cs = .agg _
    congr 1
    exact Array.toList_inj.1 key
end Go.Proofs.YtmidfgjnaebfiaaGreatDoor
