/-
  The draw of one who enters a bulkhead.
-/
import Derived.Test.YtmgidcigihpbeaaDraw11B
namespace Go.Proofs.Ytmgidcigihpbeaa
open Go.ChangeShapes Go.WideShapes Go.ChangeAt Go.RowKit Go.Sort
set_option linter.unusedVariables false
/-- Those who wait in a row of one's own, and all that was there ahead of the call as it was. -/
structure EndL (w X : World) (N base : Nat) (va : Option Addr) (n vc : Nat) (q : List Wt) : Prop where
  ow : OwnWt X base (.slice va n vc) q
  lo : Below N w X
  hb : N + 2 ≤ base
theorem EndL.in {w X : World} {N base : Nat} {va : Option Addr} {n vc : Nat} {q : List Wt} (h : EndL w X N base va n vc q) : WtIn X va q ∧ n ≤ vc := by
  obtain ⟨x, y, e, h2, hin⟩ := h.ow.in
  simp only [Value.slice.injEq] at e
  rw [e.1]
  exact ⟨hin, h.ow.cap⟩
theorem FinL.in {w X : World} {N SB : Nat} {a : Option Addr} {len cap k : Nat} {va : Option Addr} {n vc : Nat} {q : List Wt} (h : FinL w X N SB a len cap k va n vc q) (hN : w.heap.size = N) : EndL w X w.heap.size (w.heap.size + 2) va n vc q := by
  rw [hN]
  exact ⟨h.ow.lower (by have := h.hN; omega), h.lo, Nat.le_refl _⟩
theorem FinL.keep {w X Y : World} {N SB : Nat} {a : Option Addr} {len cap k : Nat} {va : Option Addr} {n vc : Nat} {q : List Wt} (h : FinL w X N SB a len cap k va n vc q) (hb : Below X.heap.size X Y) : FinL w Y N SB a len cap k va n vc q :=
  ⟨h.ow.below hb, h.sr.below (hb.mono h.sr.lt), h.lo.trans (hb.mono (by have := h.sr.lt; have := h.hN; omega)), h.cr, h.hN⟩
theorem FinL.step {w X Y : World} {N SB : Nat} {a : Option Addr} {len cap k k' : Nat} {va : Option Addr} {n vc : Nat} {q : List Wt} (h : FinL w X N SB a len cap k va n vc q) (hs : Src Y SB a len cap k') (hb : Below SB X Y) (ha : ApartH SB X Y) : FinL w Y N SB a len cap k' va n vc q :=
  ⟨h.ow.apart ha (Nat.lt_succ_self _), hs, h.lo.trans (hb.mono (by have := h.hN; omega)), h.cr, h.hN⟩
theorem SBL.step {X Y : World} {SB B L : Nat} {y : Int} {va : Option Addr} {n vc : Nat} {s c t : Int} (h : SBL X B L y va n vc s c t) (ha : ApartH SB X Y) (hB : B ≠ SB) (hR : L ≠ SB) : SBL Y B L y va n vc s c t := by
  obtain ⟨c0, c1, r0, r1, r2⟩ := h
  have hc := ha.cells
  exact ⟨by rw [hc.cell _ _ (block_lt_of_cell c0) hB]; exact c0, by rw [hc.cell _ _ (block_lt_of_cell c0) hB]; exact c1, by rw [hc.cell _ _ (block_lt_of_cell r0) hR]; exact r0, by rw [hc.cell _ _ (block_lt_of_cell r0) hR]; exact r1, by rw [hc.cell _ _ (block_lt_of_cell r0) hR]; exact r2⟩
theorem SBL.keep {X Y : World} {B L : Nat} {y : Int} {va : Option Addr} {n vc : Nat} {s c t : Int} (h : SBL X B L y va n vc s c t) (hb : Below X.heap.size X Y) : SBL Y B L y va n vc s c t := by
  obtain ⟨c0, c1, r0, r1, r2⟩ := h
  have k : ∀ (b i : Nat) (v : Value), X.cell? ⟨b, i, none⟩ = some v → Y.cell? ⟨b, i, none⟩ = some v := fun b i v h => by rw [hb.cell (block_lt_of_cell h)]; exact h
  exact ⟨k _ _ _ c0, k _ _ _ c1, k _ _ _ r0, k _ _ _ r1, k _ _ _ r2⟩
/-- What is held while a draw is told. -/
structure GQL (w X : World) (N SB B L : Nat) (a : Option Addr) (len cap k : Nat) (y : Int) (va : Option Addr) (n vc : Nat) (s c t : Int) (q : List Wt) : Prop where
  fin : FinL w X N SB a len cap k va n vc q
  sb : SBL X B L y va n vc s c t
  q0 : D2 X N (.int .i64 0) (.slice none 0 0)
  q1 : D3 X (N + 1) (.int .i64 0) (.int .i64 0) (.int .i64 0)
  lt : SB < B ∧ SB < L
section
variable {w X Y : World} {N SB B L : Nat} {a : Option Addr} {len cap k : Nat} {y : Int} {va : Option Addr} {n vc : Nat} {s c t : Int} {q : List Wt}
theorem GQL.keep (h : GQL w X N SB B L a len cap k y va n vc s c t q) (hb : Below X.heap.size X Y) : GQL w Y N SB B L a len cap k y va n vc s c t q := ⟨h.fin.keep hb, h.sb.keep hb, h.q0.keep hb, h.q1.keep hb, h.lt⟩
theorem GQL.al {o : Obj} (h : GQL w X N SB B L a len cap k y va n vc s c t q) : GQL w (X.alloc o) N SB B L a len cap k y va n vc s c t q := h.keep ((Below.refl _ _).alloc (Nat.le_refl _) _)
theorem GQL.drw (h : GQL w X N SB B L a len cap k y va n vc s c t q) : GQL w X.drew N SB B L a len cap k y va n vc s c t q := h.keep (Below.refl _ _).drew
theorem GQL.step {k' : Nat} (h : GQL w X N SB B L a len cap k y va n vc s c t q) (hs : Src Y SB a len cap k') (hb : Below SB X Y) (ha : ApartH SB X Y) : GQL w Y N SB B L a len cap k' y va n vc s c t q := by
  have h1 := h.fin.hN
  have h2 := h.lt
  exact ⟨h.fin.step hs hb ha, h.sb.step ha (by omega) (by omega), h.q0.ah ha (by omega), h.q1.ah ha (by omega), h.lt⟩
/-- A pick out of a list that was laid. -/
theorem GQL.pick {M : Nat} {vs : Array Value} (h : GQL w X N SB B L a len cap k y va n vc s c t q) (xs : List Int) (hl : LCN X M vs) (e : vs = (xs.map (Value.int .i64)).toArray) (m : Nat) (hm : xs.length = m) (hpos : 0 < m) (hm2 : m ≤ 100) (hk : k ≤ 1000) (hl2 : len ≤ 1048577) :
    Calls Try.prog 39 #[.pointer (some ⟨SB, 0, none⟩), .slice (some ⟨M, 0, none⟩) m m] X fun e w' => (∃ v : Int, v ∈ xs ∧ e = .returned (.int .i64 v)) ∧ GQL w w' N SB B L a len cap (k + 1) y va n vc s c t q ∧ ApartH SB X w' := by
  have hMS : M ≠ SB := fun e2 => by
    have h0 := h.fin.sr.c0
    have h1 := hl.cells xs e 0 xs[0] (List.getElem?_eq_getElem (by omega))
    rw [e2, h0] at h1
    cases h1
  refine (l1Pick_any X SB a len cap k h.fin.sr M xs hMS m hm (hl.cells xs e) hpos (by omega) (by omega) hl2).mono fun _ w' ⟨h1, h2⟩ => ?_
  obtain ⟨hs, hb⟩ := h.fin.sr.stepped h2
  exact ⟨h1, h.step hs hb (ApartH.stepped h2), ApartH.stepped h2⟩
end
def AskE (w w' : World) (e : Ending) : Prop := ∃ (y s c t id now : Int) (va : Option Addr) (n vc : Nat) (q : List Wt), e = .returned (.tuple #[.agg #[.int .i64 y, .slice va n vc], .agg #[.int .i64 s, .int .i64 c, .int .i64 t], .int .i64 id, .int .i64 now]) ∧ q.length = n ∧ n ≤ 9 ∧ EndL w w' w.heap.size (w.heap.size + 2) va n vc q
theorem AskE.mk {w w' : World} {y s c t id now : Int} {va : Option Addr} {n vc : Nat} {q : List Wt} (h1 : q.length = n) (h2 : n ≤ 9) (h4 : EndL w w' w.heap.size (w.heap.size + 2) va n vc q) : AskE w w' (.returned (.tuple #[.agg #[.int .i64 y, .slice va n vc], .agg #[.int .i64 s, .int .i64 c, .int .i64 t], .int .i64 id, .int .i64 now])) := ⟨y, s, c, t, id, now, va, n, vc, q, rfl, h1, h2, h4⟩
set_option linter.unusedSimpArgs false in
set_option maxRecDepth 100000 in
set_option maxHeartbeats 32000000 in
theorem drawEnter_any (w : World) (a : Option Addr) (len cap : Nat) (N : Nat) (hN : w.heap.size = N) (hc : CodeRow w N a len) (hl3 : len ≤ 1048576) :
    Calls Try.prog 8 #[.slice a len cap] w fun e w' => AskE w w' e := by
  have hl2 : len ≤ 1048577 := by omega
  have HC := rulW hc
  obtain ⟨V1, hV1⟩ : ∃ V, V = w.alloc (.cells #[.int .i64 0, .slice none 0 0] 26) := ⟨_, rfl⟩
  obtain ⟨V2, hV2⟩ : ∃ V, V = V1.alloc (.cells #[.int .i64 0, .int .i64 0, .int .i64 0] 28) := ⟨_, rfl⟩
  have z1 : V1.heap.size = N + 1 := by rw [hV1, ← hN]; simp
  have z2 : V2.heap.size = N + 2 := by rw [hV2]; simp [z1]
  have b1 : Below w.heap.size w V1 := by rw [hV1]; exact (Below.refl _ _).alloc (Nat.le_refl _) _
  have b2 : Below V1.heap.size V1 V2 := by rw [hV2]; exact (Below.refl _ _).alloc (Nat.le_refl _) _
  have b12 : Below N w V2 := by rw [← hN]; exact b1.trans (b2.mono b1.size)
  have q0 : D2 V2 N (.int .i64 0) (.slice none 0 0) := by
    have := D2.new w (.int .i64 0) (.slice none 0 0) 26
    rw [← hV1, hN] at this
    exact this.keep b2
  have q1 : D3 V2 (N + 1) (.int .i64 0) (.int .i64 0) (.int .i64 0) := by
    have := D3.new V1 (.int .i64 0) (.int .i64 0) (.int .i64 0) 28
    rw [← hV2, z1] at this
    exact this
  have HB := rulW b12
  have HQ := rulW (show D2 V2 N (.int .i64 0) (.slice none 0 0) ∧ D3 V2 (N + 1) (.int .i64 0) (.int .i64 0) (.int .i64 0) from ⟨q0, q1⟩)
  have HBE : Hid (Calls Try.prog 38 #[.slice a len cap] V2 fun e w' => BentL V2 w' (N + 2) a len cap e) := l11Bent_any V2 a len cap (N + 2) z2 ((hc.below b12).mono (by omega)) hl3
  have HV1 := rulW hV1
  have HV2 := rulW hV2
  clear b1 b2 b12 q0 q1 hV1 hV2 hc z1 z2
  go_enter Try.func8, Try.ntmps8
  go_upto_region 1 with fail
  rw [← HV1.out, ← HV2.out]
  clear HV1 HV2
  go_wp2_with fail
  refine HBE.out.mono ?_
  rintro r w1 ⟨y, s, c, t, va, n, vc, q, k, rfl, hln, hn9, hk, hf⟩
  obtain ⟨W2, hW2⟩ : ∃ W, W = (w1.alloc (.cells #[.int .i64 y, .slice va n vc] 26)).alloc (.cells #[.int .i64 s, .int .i64 c, .int .i64 t] 28) := ⟨_, rfl⟩
  obtain ⟨B, hB⟩ : ∃ B, w1.heap.size = B := ⟨_, rfl⟩
  have hBN : N + 4 < B := by rw [← hB]; exact hf.sr.lt
  have JR : Hid (GQL w W2 N (N + 4) B (B + 1) a len cap k y va n vc s c t q) := by
    have bA : Below w1.heap.size w1 (w1.alloc (.cells #[.int .i64 y, .slice va n vc] 26)) := (Below.refl _ _).alloc (Nat.le_refl _) _
    have bB : Below (w1.alloc (.cells #[.int .i64 y, .slice va n vc] 26)).heap.size (w1.alloc (.cells #[.int .i64 y, .slice va n vc] 26)) W2 := by rw [hW2]; exact (Below.refl _ _).alloc (Nat.le_refl _) _
    have b2 : Below w1.heap.size w1 W2 := bA.trans (bB.mono bA.size)
    have sA := D2.new w1 (.int .i64 y) (.slice va n vc) 26
    have sB := D3.new (w1.alloc (.cells #[.int .i64 y, .slice va n vc] 26)) (.int .i64 s) (.int .i64 c) (.int .i64 t) 28
    rw [show (w1.alloc (.cells #[.int .i64 y, .slice va n vc] 26)).heap.size = B + 1 by rw [← hB]; simp, ← hW2] at sB
    rw [hB] at sA
    have sA2 := sA.keep bB
    have HF1 : FinL w w1 N (N + 4) a len cap k va n vc q := ⟨hf.ow, hf.sr, HB.out.trans (hf.lo.mono (by omega)), HC.out, by omega⟩
    exact ⟨HF1.keep b2, ⟨sA2.c0, sA2.c1, sB.c0, sB.c1, sB.c2⟩, (HQ.out.1.low hf.lo (by omega)).keep b2, (HQ.out.2.low hf.lo (by omega)).keep b2, by omega, by omega⟩
  have SR := rulW (show N + 4 < W2.heap.size from JR.out.fin.sr.lt)
  have HW2 := rulW hW2
  have HN := rulW hN
  have HLN := rulW hln
  clear hW2 hf HBE HB HQ hln
  go_upto_region 2 with fail
  try simp only [hB]
  rw [← HW2.out]
  clear HW2 hB
  rw [show N + 2 + 2 = N + 4 from rfl]
  have HP1 : Hid (∀ X M, GQL w X N (N + 4) B (B + 1) a len cap k y va n vc s c t q → LCN X M #[.int .i64 3, .int .i64 5, .int .i64 12, .int .i64 99, .int .i64 20, .int .i64 (-1)] → Calls Try.prog 39 #[.pointer (some ⟨N + 4, 0, none⟩), .slice (some ⟨M, 0, none⟩) 6 6] X fun e w' => (∃ v : Int, v ∈ ([3, 5, 12, 99, 20, -1] : List Int) ∧ e = .returned (.int .i64 v)) ∧ GQL w w' N (N + 4) B (B + 1) a len cap (k + 1) y va n vc s c t q ∧ ApartH (N + 4) X w') := fun X M h hl => h.pick [3, 5, 12, 99, 20, -1] hl rfl 6 rfl (by omega) (by omega) (by omega) hl2
  have HP2 : Hid (∀ X M, GQL w X N (N + 4) B (B + 1) a len cap (k + 1) y va n vc s c t q → LCN X M #[.int .i64 0, .int .i64 1000, .int .i64 1000000000000000, .int .i64 (-1), .int .i64 77, .int .i64 78] → Calls Try.prog 39 #[.pointer (some ⟨N + 4, 0, none⟩), .slice (some ⟨M, 0, none⟩) 6 6] X fun e w' => (∃ v : Int, v ∈ ([0, 1000, 1000000000000000, -1, 77, 78] : List Int) ∧ e = .returned (.int .i64 v)) ∧ GQL w w' N (N + 4) B (B + 1) a len cap ((k + 1) + 1) y va n vc s c t q ∧ ApartH (N + 4) X w') := fun X M h hl => h.pick [0, 1000, 1000000000000000, -1, 77, 78] hl rfl 6 rfl (by omega) (by omega) (by omega) hl2
  have HKC : Hid (∀ Z kk, GQL w Z N (N + 4) B (B + 1) a len cap kk y va n vc s c t q → SBL Z B (B + 1) y va n vc s c t) := fun Z kk h => h.sb
  have HKD : Hid (∀ Z, SBL Z B (B + 1) y va n vc s c t → Z.cell? ⟨B, 0, none⟩ = some (.int .i64 y) ∧ Z.cell? ⟨B, 1, none⟩ = some (.slice va n vc) ∧ Z.cell? ⟨B + 1, 0, none⟩ = some (.int .i64 s) ∧ Z.cell? ⟨B + 1, 1, none⟩ = some (.int .i64 c) ∧ Z.cell? ⟨B + 1, 2, none⟩ = some (.int .i64 t)) := fun Z h => h
  have HKS : Hid (∀ Z i z, SBL Z B (B + 1) y va n vc s c t → SBL (Z.setCell ⟨N, i, none⟩ z) B (B + 1) y va n vc s c t) := fun Z i z h => h.off (by omega) (by omega)
  have HKT : Hid (∀ Z i z, SBL Z B (B + 1) y va n vc s c t → SBL (Z.setCell ⟨N + 1, i, none⟩ z) B (B + 1) y va n vc s c t) := fun Z i z h => h.off (by omega) (by omega)
  go_region_held3 (fun Z => Z.cell? ⟨B, 0, none⟩ = some (.int .i64 y) ∧ Z.cell? ⟨B, 1, none⟩ = some (.slice va n vc) ∧ Z.cell? ⟨B + 1, 0, none⟩ = some (.int .i64 s) ∧ Z.cell? ⟨B + 1, 1, none⟩ = some (.int .i64 c) ∧ Z.cell? ⟨B + 1, 2, none⟩ = some (.int .i64 t))
    (first | ((with_reducible refine HKD.out _ ?_); (with_reducible refine HKC.out _ k ?_); (repeat (first | with_reducible exact JP.out | with_reducible exact JA.out | with_reducible exact JR.out | with_reducible refine GQL.al ?_ | with_reducible refine GQL.drw ?_)); done) | ((with_reducible refine HKD.out _ ?_); (with_reducible refine HKC.out _ (k + 1) ?_); (repeat (first | with_reducible exact JP.out | with_reducible exact JA.out | with_reducible exact JR.out | with_reducible refine GQL.al ?_ | with_reducible refine GQL.drw ?_)); done) | ((with_reducible refine HKD.out _ ?_); (with_reducible refine HKC.out _ (k + 2) ?_); (repeat (first | with_reducible exact JP.out | with_reducible exact JA.out | with_reducible exact JR.out | with_reducible refine GQL.al ?_ | with_reducible refine GQL.drw ?_)); done) | ((with_reducible refine HKD.out _ ?_); (repeat (first | with_reducible exact HSP.out | with_reducible refine HKS.out _ _ _ ?_ | with_reducible refine HKT.out _ _ _ ?_)); done))
    (first
    | (go_at_call 39; first
      | ((with_reducible refine (HP2.out _ _ ?_ ?_).mono ?_); (with_reducible exact JA.out); (repeat (first | with_reducible exact LCN.new _ _ | with_reducible exact LCN.new1 _ _ _ | with_reducible refine LCN.ap AP.out ?_ (by first | (have := SR.out; omega) | (have := SA.out; omega) | (have := SP.out; omega)) | with_reducible refine LCN.ap AA.out ?_ (by first | (have := SR.out; omega) | (have := SA.out; omega) | (have := SP.out; omega)) | with_reducible refine LCN.al ?_ | with_reducible refine LCN.drw ?_)); rintro r wb ⟨⟨x2v, m2, rfl⟩, jd, ja⟩; have JP := rulW jd; clear jd ja m2; obtain ⟨p0, p1, pf, _⟩ := JP.out.q0; obtain ⟨x0, x1, x2, xf, _⟩ := JP.out.q1; have pf0 := pf 0; have pf1 := pf 1; have xf0 := xf 0; have xf1 := xf 1; have xf2 := xf 2; clear pf xf; have GF := rulW JP.out.fin; have HSP := rulW JP.out.sb)
      | ((with_reducible refine (HP2.out _ _ ?_ ?_).mono ?_); (with_reducible refine GQL.drw ?_); (with_reducible refine GQL.al ?_); (with_reducible exact JA.out); (repeat (first | with_reducible exact LCN.new _ _ | with_reducible exact LCN.new1 _ _ _ | with_reducible refine LCN.ap AP.out ?_ (by first | (have := SR.out; omega) | (have := SA.out; omega) | (have := SP.out; omega)) | with_reducible refine LCN.ap AA.out ?_ (by first | (have := SR.out; omega) | (have := SA.out; omega) | (have := SP.out; omega)) | with_reducible refine LCN.al ?_ | with_reducible refine LCN.drw ?_)); rintro r wb ⟨⟨x2v, m2, rfl⟩, jd, ja⟩; have JP := rulW jd; clear jd ja m2; obtain ⟨p0, p1, pf, _⟩ := JP.out.q0; obtain ⟨x0, x1, x2, xf, _⟩ := JP.out.q1; have pf0 := pf 0; have pf1 := pf 1; have xf0 := xf 0; have xf1 := xf 1; have xf2 := xf 2; clear pf xf; have GF := rulW JP.out.fin; have HSP := rulW JP.out.sb)
      | ((with_reducible refine (HP2.out _ _ ?_ ?_).mono ?_); (with_reducible refine GQL.al ?_); (with_reducible exact JA.out); (repeat (first | with_reducible exact LCN.new _ _ | with_reducible exact LCN.new1 _ _ _ | with_reducible refine LCN.ap AP.out ?_ (by first | (have := SR.out; omega) | (have := SA.out; omega) | (have := SP.out; omega)) | with_reducible refine LCN.ap AA.out ?_ (by first | (have := SR.out; omega) | (have := SA.out; omega) | (have := SP.out; omega)) | with_reducible refine LCN.al ?_ | with_reducible refine LCN.drw ?_)); rintro r wb ⟨⟨x2v, m2, rfl⟩, jd, ja⟩; have JP := rulW jd; clear jd ja m2; obtain ⟨p0, p1, pf, _⟩ := JP.out.q0; obtain ⟨x0, x1, x2, xf, _⟩ := JP.out.q1; have pf0 := pf 0; have pf1 := pf 1; have xf0 := xf 0; have xf1 := xf 1; have xf2 := xf 2; clear pf xf; have GF := rulW JP.out.fin; have HSP := rulW JP.out.sb)
      | ((with_reducible refine (HP1.out _ _ ?_ ?_).mono ?_); (repeat (first | with_reducible exact JP.out | with_reducible exact JA.out | with_reducible exact JR.out | with_reducible refine GQL.al ?_ | with_reducible refine GQL.drw ?_)); (repeat (first | with_reducible exact LCN.new _ _ | with_reducible exact LCN.new1 _ _ _ | with_reducible refine LCN.ap AP.out ?_ (by first | (have := SR.out; omega) | (have := SA.out; omega) | (have := SP.out; omega)) | with_reducible refine LCN.ap AA.out ?_ (by first | (have := SR.out; omega) | (have := SA.out; omega) | (have := SP.out; omega)) | with_reducible refine LCN.al ?_ | with_reducible refine LCN.drw ?_)); rintro r wa ⟨⟨x1v, m1, rfl⟩, jd, ja⟩; have JA := rulW jd; have AA := rulW ja; have SA := rulW jd.fin.sr.lt; clear jd ja m1)))
  all_goals
    go_wp2_with fail
    exact bodyPost_ret (v := .tuple #[.agg #[.int .i64 y, .slice va n vc], .agg #[.int .i64 s, .int .i64 c, .int .i64 t], .int .i64 x1v, .int .i64 x2v]) (by simp [results, Try.results8, go_sem, p0, p1, x0, x1, x2]) rfl (AskE.mk HLN.out (by omega) (FinL.in (SB := N + 4) (a := a) (len := len) (cap := cap) (k := k + 1 + 1) (n := n) (vc := vc) (by repeat (first | with_reducible exact GF.out | with_reducible refine FinL.set ?_ (by omega) | with_reducible refine FinL.drw ?_)) HN.out))
end Go.Proofs.Ytmgidcigihpbeaa
