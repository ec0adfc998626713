/-
  The draws of a breaker that is asked, and of one to which an outcome is told.
-/
import Derived.Test.YtmgidcigihpbeaaDraw10E
import Derived.Test.YtmgidcigihpbeaaDraw6L
namespace Go.Proofs.Ytmgidcigihpbeaa
open Go.ChangeShapes Go.WideShapes Go.ChangeAt Go.RowKit Go.Sort
/-- Marks in a row of one's own, and all that was there ahead of the call as it was. -/
structure EndP (w X : World) (N base : Nat) (va : Option Addr) (n vc : Nat) (l : List Mk) : Prop where
  ow : OwnMk X base (.slice va n vc) l
  lo : Below N w X
  hb : N + 2 ≤ base
theorem EndP.set {w X : World} {N base : Nat} {va : Option Addr} {n vc : Nat} {l : List Mk} {b i : Nat} {y : Value} (h : EndP w X N base va n vc l) (hb : b = N ∨ b = N + 1) : EndP w (X.setCell ⟨b, i, none⟩ y) N base va n vc l := by
  have := h.hb
  exact ⟨h.ow.offB (gbSet _ _ _ _) (by omega), h.lo.setCell (by simp; omega) _, h.hb⟩
theorem EndP.drw {w X : World} {N base : Nat} {va : Option Addr} {n vc : Nat} {l : List Mk} (h : EndP w X N base va n vc l) : EndP w X.drew N base va n vc l := ⟨h.ow.below (Below.refl _ _).drew, h.lo.drew, h.hb⟩
theorem EndP.keep {w X Y : World} {N base : Nat} {va : Option Addr} {n vc : Nat} {l : List Mk} (h : EndP w X N base va n vc l) (hb : Below X.heap.size X Y) (hN : N ≤ X.heap.size) : EndP w Y N base va n vc l := ⟨h.ow.below hb, h.lo.trans (hb.mono hN), h.hb⟩
theorem EndP.in {w X : World} {N base : Nat} {va : Option Addr} {n vc : Nat} {l : List Mk} (h : EndP w X N base va n vc l) : MkIn X va l := by
  obtain ⟨x, y, e, _, hin⟩ := h.ow.in
  simp only [Value.slice.injEq] at e
  rw [e.1]
  exact hin
theorem EndP.at {w X : World} {N : Nat} {va : Option Addr} {n vc : Nat} {l : List Mk} (h : EndP w X N (N + 2) va n vc l) (hN : w.heap.size = N) : EndP w X w.heap.size (w.heap.size + 2) va n vc l := by rw [hN]; exact h
def AskB (w w' : World) (e : Ending) : Prop := ∃ (s t o now a0 a1 a2 a3 a4 : Int) (va : Option Addr) (n vc : Nat) (l : List Mk), e = .returned (.tuple #[.agg #[.int .i64 s, .int .i64 t, .int .i64 o, .slice va n vc], .agg #[.int .i64 a0, .int .i64 a1, .int .i64 a2, .int .i64 a3, .int .i64 a4], .int .i64 now]) ∧ l.length = n ∧ n ≤ 61 ∧ (-1 ≤ now ∧ now ≤ 40000) ∧ EndP w w' w.heap.size (w.heap.size + 2) va n vc l
theorem AskB.mk {w w' : World} {s t o now a0 a1 a2 a3 a4 : Int} {va : Option Addr} {n vc : Nat} {l : List Mk} (h1 : l.length = n) (h2 : n ≤ 61) (h3 : -1 ≤ now ∧ now ≤ 40000) (h4 : EndP w w' w.heap.size (w.heap.size + 2) va n vc l) : AskB w w' (.returned (.tuple #[.agg #[.int .i64 s, .int .i64 t, .int .i64 o, .slice va n vc], .agg #[.int .i64 a0, .int .i64 a1, .int .i64 a2, .int .i64 a3, .int .i64 a4], .int .i64 now])) := ⟨s, t, o, now, a0, a1, a2, a3, a4, va, n, vc, l, rfl, h1, h2, h3, h4⟩
def AskN (w w' : World) (e : Ending) : Prop := ∃ (s t o now a0 a1 a2 a3 a4 : Int) (va : Option Addr) (n vc : Nat) (l : List Mk) (g : Bool), e = .returned (.tuple #[.agg #[.int .i64 s, .int .i64 t, .int .i64 o, .slice va n vc], .agg #[.int .i64 a0, .int .i64 a1, .int .i64 a2, .int .i64 a3, .int .i64 a4], .int .i64 now, .bool g]) ∧ l.length = n ∧ n ≤ 61 ∧ (-1 ≤ now ∧ now ≤ 40000) ∧ EndP w w' w.heap.size (w.heap.size + 2) va n vc l
theorem AskN.mk {w w' : World} {s t o now a0 a1 a2 a3 a4 : Int} {va : Option Addr} {n vc : Nat} {l : List Mk} {g : Bool} (h1 : l.length = n) (h2 : n ≤ 61) (h3 : -1 ≤ now ∧ now ≤ 40000) (h4 : EndP w w' w.heap.size (w.heap.size + 2) va n vc l) : AskN w w' (.returned (.tuple #[.agg #[.int .i64 s, .int .i64 t, .int .i64 o, .slice va n vc], .agg #[.int .i64 a0, .int .i64 a1, .int .i64 a2, .int .i64 a3, .int .i64 a4], .int .i64 now, .bool g])) := ⟨s, t, o, now, a0, a1, a2, a3, a4, va, n, vc, l, g, rfl, h1, h2, h3, h4⟩
theorem FinP.in {w X : World} {N SB : Nat} {a : Option Addr} {len cap k : Nat} {va : Option Addr} {n vc : Nat} {l : List Mk} (h : FinP w X N SB a len cap k va n vc l) (hN : w.heap.size = N) : EndP w X w.heap.size (w.heap.size + 2) va n vc l := by
  rw [hN]
  exact ⟨h.ow.lower (by have := h.hN; omega), h.lo, Nat.le_refl _⟩
theorem FinP.keep {w X Y : World} {N SB : Nat} {a : Option Addr} {len cap k : Nat} {va : Option Addr} {n vc : Nat} {l : List Mk} (h : FinP w X N SB a len cap k va n vc l) (hb : Below X.heap.size X Y) : FinP w Y N SB a len cap k va n vc l :=
  ⟨h.ow.below hb, h.sr.below (hb.mono h.sr.lt), h.lo.trans (hb.mono (by have := h.sr.lt; have := h.hN; omega)), h.cr, h.hN⟩
theorem FinP.step {w X Y : World} {N SB : Nat} {a : Option Addr} {len cap k k' : Nat} {va : Option Addr} {n vc : Nat} {l : List Mk} (h : FinP w X N SB a len cap k va n vc l) (hs : Src Y SB a len cap k') (hb : Below SB X Y) (ha : ApartH SB X Y) : FinP w Y N SB a len cap k' va n vc l :=
  ⟨h.ow.apart ha (Nat.lt_succ_self _), hs, h.lo.trans (hb.mono (by have := h.hN; omega)), h.cr, h.hN⟩
theorem SBR.step {X Y : World} {SB B R : Nat} {s t o : Int} {va : Option Addr} {n vc : Nat} {a0 a1 a2 a3 a4 : Int} (h : SBR X B R s t o va n vc a0 a1 a2 a3 a4) (ha : ApartH SB X Y) (hB : B ≠ SB) (hR : R ≠ SB) : SBR Y B R s t o va n vc a0 a1 a2 a3 a4 := by
  obtain ⟨c0, c1, c2, c3, r0, r1, r2, r3, r4⟩ := h
  have hc := ha.cells
  exact ⟨by rw [hc.cell _ _ (block_lt_of_cell c0) hB]; exact c0, by rw [hc.cell _ _ (block_lt_of_cell c0) hB]; exact c1, by rw [hc.cell _ _ (block_lt_of_cell c0) hB]; exact c2, by rw [hc.cell _ _ (block_lt_of_cell c0) hB]; exact c3, by rw [hc.cell _ _ (block_lt_of_cell r0) hR]; exact r0, by rw [hc.cell _ _ (block_lt_of_cell r0) hR]; exact r1, by rw [hc.cell _ _ (block_lt_of_cell r0) hR]; exact r2, by rw [hc.cell _ _ (block_lt_of_cell r0) hR]; exact r3, by rw [hc.cell _ _ (block_lt_of_cell r0) hR]; exact r4⟩
theorem SBR.keep {X Y : World} {B R : Nat} {s t o : Int} {va : Option Addr} {n vc : Nat} {a0 a1 a2 a3 a4 : Int} (h : SBR X B R s t o va n vc a0 a1 a2 a3 a4) (hb : Below X.heap.size X Y) : SBR Y B R s t o va n vc a0 a1 a2 a3 a4 := by
  obtain ⟨c0, c1, c2, c3, r0, r1, r2, r3, r4⟩ := h
  have k : ∀ (b i : Nat) (v : Value), X.cell? ⟨b, i, none⟩ = some v → Y.cell? ⟨b, i, none⟩ = some v := fun b i v h => by rw [hb.cell (block_lt_of_cell h)]; exact h
  exact ⟨k _ _ _ c0, k _ _ _ c1, k _ _ _ c2, k _ _ _ c3, k _ _ _ r0, k _ _ _ r1, k _ _ _ r2, k _ _ _ r3, k _ _ _ r4⟩
set_option linter.unusedSimpArgs false in
set_option maxRecDepth 100000 in
set_option maxHeartbeats 32000000 in
theorem drawAllow_any (w : World) (a : Option Addr) (len cap : Nat) (N : Nat) (hN : w.heap.size = N) (hc : CodeRow w N a len) (hl3 : len ≤ 1048576) :
    Calls Try.prog 25 #[.slice a len cap] w fun e w' => AskB w w' e := by
  have hl2 : len ≤ 1048577 := by omega
  have HC := rulQ hc
  obtain ⟨V1, hV1⟩ : ∃ V, V = w.alloc (.cells #[.int .i64 0, .int .i64 0, .int .i64 0, .slice none 0 0] 51) := ⟨_, rfl⟩
  obtain ⟨V2, hV2⟩ : ∃ V, V = V1.alloc (.cells #[.int .i64 0, .int .i64 0, .int .i64 0, .int .i64 0, .int .i64 0] 53) := ⟨_, rfl⟩
  have z1 : V1.heap.size = N + 1 := by rw [hV1, ← hN]; simp
  have z2 : V2.heap.size = N + 2 := by rw [hV2]; simp [z1]
  have b1 : Below w.heap.size w V1 := by rw [hV1]; exact (Below.refl _ _).alloc (Nat.le_refl _) _
  have b2 : Below V1.heap.size V1 V2 := by rw [hV2]; exact (Below.refl _ _).alloc (Nat.le_refl _) _
  have b12 : Below N w V2 := by rw [← hN]; exact b1.trans (b2.mono b1.size)
  have q0 : S4 V2 N (.int .i64 0) (.int .i64 0) (.int .i64 0) (.slice none 0 0) := by
    have := S4.new w (.int .i64 0) (.int .i64 0) (.int .i64 0) (.slice none 0 0) 51
    rw [← hV1, hN] at this
    exact this.keep b2
  have q1 : S5 V2 (N + 1) (.int .i64 0) (.int .i64 0) (.int .i64 0) (.int .i64 0) (.int .i64 0) := by
    have := S5.new V1 (.int .i64 0) (.int .i64 0) (.int .i64 0) (.int .i64 0) (.int .i64 0) 53
    rw [← hV2, z1] at this
    exact this
  have HB := rulQ b12
  have HQ := rulQ (show S4 V2 N (.int .i64 0) (.int .i64 0) (.int .i64 0) (.slice none 0 0) ∧ S5 V2 (N + 1) (.int .i64 0) (.int .i64 0) (.int .i64 0) (.int .i64 0) (.int .i64 0) from ⟨q0, q1⟩)
  have HBE : Hid (Calls Try.prog 61 #[.slice a len cap] V2 fun e w' => BentB V2 w' (N + 2) a len cap e) := l10Bent_any V2 a len cap (N + 2) z2 ((hc.below b12).mono (by omega)) hl3
  have HV1 := rulQ hV1
  have HV2 := rulQ hV2
  clear b1 b2 b12 q0 q1 hV1 hV2 hc z1 z2
  go_enter Try.func25, Try.ntmps25
  go_upto_region 1 with fail
  rw [← HV1.out, ← HV2.out]
  clear HV1 HV2
  go_wp2_with fail
  refine HBE.out.mono ?_
  rintro r w1 ⟨s, t, o, now, a0, a1, a2, a3, a4, va, n, vc, l, k, rfl, hln, hn61, hnow, hk, hf⟩
  have HF1 : Hid (FinP w w1 N (N + 4) a len cap k va n vc l) := ⟨hf.ow, hf.sr, HB.out.trans (hf.lo.mono (by omega)), HC.out, by omega⟩
  have HQ1 := rulQ (show S4 w1 N (.int .i64 0) (.int .i64 0) (.int .i64 0) (.slice none 0 0) ∧ S5 w1 (N + 1) (.int .i64 0) (.int .i64 0) (.int .i64 0) (.int .i64 0) (.int .i64 0) from ⟨HQ.out.1.low hf.lo (by omega), HQ.out.2.low hf.lo (by omega)⟩)
  clear hf HBE HB HQ
  obtain ⟨W2, hW2⟩ : ∃ W, W = (w1.alloc (.cells #[.int .i64 s, .int .i64 t, .int .i64 o, .slice va n vc] 51)).alloc (.cells #[.int .i64 a0, .int .i64 a1, .int .i64 a2, .int .i64 a3, .int .i64 a4] 53) := ⟨_, rfl⟩
  obtain ⟨B, hB⟩ : ∃ B, w1.heap.size = B := ⟨_, rfl⟩
  have hBN : N + 4 < B := by rw [← hB]; exact HF1.out.sr.lt
  have bA : Below w1.heap.size w1 (w1.alloc (.cells #[.int .i64 s, .int .i64 t, .int .i64 o, .slice va n vc] 51)) := (Below.refl _ _).alloc (Nat.le_refl _) _
  have bB : Below (w1.alloc (.cells #[.int .i64 s, .int .i64 t, .int .i64 o, .slice va n vc] 51)).heap.size (w1.alloc (.cells #[.int .i64 s, .int .i64 t, .int .i64 o, .slice va n vc] 51)) W2 := by rw [hW2]; exact (Below.refl _ _).alloc (Nat.le_refl _) _
  have b2 : Below w1.heap.size w1 W2 := bA.trans (bB.mono bA.size)
  have sA := S4.new w1 (.int .i64 s) (.int .i64 t) (.int .i64 o) (.slice va n vc) 51
  have sB := S5.new (w1.alloc (.cells #[.int .i64 s, .int .i64 t, .int .i64 o, .slice va n vc] 51)) (.int .i64 a0) (.int .i64 a1) (.int .i64 a2) (.int .i64 a3) (.int .i64 a4) 53
  rw [show (w1.alloc (.cells #[.int .i64 s, .int .i64 t, .int .i64 o, .slice va n vc] 51)).heap.size = B + 1 by rw [← hB]; simp, ← hW2] at sB
  rw [hB] at sA
  have sA2 := sA.keep bB
  have G2 : Hid (FinP w W2 N (N + 4) a len cap k va n vc l ∧ SBR W2 B (B + 1) s t o va n vc a0 a1 a2 a3 a4 ∧ S4 W2 N (.int .i64 0) (.int .i64 0) (.int .i64 0) (.slice none 0 0) ∧ S5 W2 (N + 1) (.int .i64 0) (.int .i64 0) (.int .i64 0) (.int .i64 0) (.int .i64 0)) := ⟨HF1.out.keep b2, ⟨sA2.c0, sA2.c1, sA2.c2, sA2.c3, sB.c0, sB.c1, sB.c2, sB.c3, sB.c4⟩, HQ1.out.1.keep b2, HQ1.out.2.keep b2⟩
  have HW2 := rulQ hW2
  clear bA bB b2 sA sB sA2 HF1 HQ1 hW2
  go_upto_region 2 with fail
  try simp only [hB]
  rw [← HW2.out]
  clear HW2 hB
  rw [show N + 2 + 2 = N + 4 from rfl]
  have HN := rulQ hN
  have GL : Hid (FinP w (W2.alloc (.cells #[.int .i64 0, .int .i64 1, .int .i64 500, .int .i64 499, .int .i64 2000, .int .i64 1999, .int .i64 100, .int .i64 (-1)] 2)).drew N (N + 4) a len cap k va n vc l ∧ SBR (W2.alloc (.cells #[.int .i64 0, .int .i64 1, .int .i64 500, .int .i64 499, .int .i64 2000, .int .i64 1999, .int .i64 100, .int .i64 (-1)] 2)).drew B (B + 1) s t o va n vc a0 a1 a2 a3 a4 ∧ S4 (W2.alloc (.cells #[.int .i64 0, .int .i64 1, .int .i64 500, .int .i64 499, .int .i64 2000, .int .i64 1999, .int .i64 100, .int .i64 (-1)] 2)).drew N (.int .i64 0) (.int .i64 0) (.int .i64 0) (.slice none 0 0) ∧ S5 (W2.alloc (.cells #[.int .i64 0, .int .i64 1, .int .i64 500, .int .i64 499, .int .i64 2000, .int .i64 1999, .int .i64 100, .int .i64 (-1)] 2)).drew (N + 1) (.int .i64 0) (.int .i64 0) (.int .i64 0) (.int .i64 0) (.int .i64 0)) := by
    have bl : Below W2.heap.size W2 (W2.alloc (.cells #[.int .i64 0, .int .i64 1, .int .i64 500, .int .i64 499, .int .i64 2000, .int .i64 1999, .int .i64 100, .int .i64 (-1)] 2)).drew := ((Below.refl _ _).alloc (Nat.le_refl _) _).drew
    exact ⟨G2.out.1.keep bl, G2.out.2.1.keep bl, G2.out.2.2.1.keep bl, G2.out.2.2.2.keep bl⟩
  have HP : Hid (Calls Try.prog 39 #[.pointer (some ⟨N + 4, 0, none⟩), .slice (some ⟨W2.heap.size, 0, none⟩) 8 8] (W2.alloc (.cells #[.int .i64 0, .int .i64 1, .int .i64 500, .int .i64 499, .int .i64 2000, .int .i64 1999, .int .i64 100, .int .i64 (-1)] 2)).drew fun e w' => (∃ v : Int, v ∈ ([0, 1, 500, 499, 2000, 1999, 100, -1] : List Int) ∧ e = .returned (.int .i64 v)) ∧ FinP w w' N (N + 4) a len cap (k + 1) va n vc l ∧ SBR w' B (B + 1) s t o va n vc a0 a1 a2 a3 a4 ∧ S4 w' N (.int .i64 0) (.int .i64 0) (.int .i64 0) (.slice none 0 0) ∧ S5 w' (N + 1) (.int .i64 0) (.int .i64 0) (.int .i64 0) (.int .i64 0) (.int .i64 0)) := by
    refine (l1Pick_any (W2.alloc (.cells #[.int .i64 0, .int .i64 1, .int .i64 500, .int .i64 499, .int .i64 2000, .int .i64 1999, .int .i64 100, .int .i64 (-1)] 2)).drew (N + 4) a len cap k GL.out.1.sr W2.heap.size [0, 1, 500, 499, 2000, 1999, 100, -1] (by have := G2.out.1.sr.lt; omega) 8 rfl ?_ (by omega) (by omega) (by omega) hl2).mono fun _ w' ⟨h1, h2⟩ => ⟨h1, ?_⟩
    · intro i x hx
      have e : (W2.alloc (.cells #[.int .i64 0, .int .i64 1, .int .i64 500, .int .i64 499, .int .i64 2000, .int .i64 1999, .int .i64 100, .int .i64 (-1)] 2)).drew.cell? ⟨W2.heap.size, i, none⟩ = (([0, 1, 500, 499, 2000, 1999, 100, -1] : List Int).map (Value.int .i64))[i]? := by simp
      rw [e, List.getElem?_map, hx]
      rfl
    · obtain ⟨hs, hb⟩ := GL.out.1.sr.stepped h2
      have ha := ApartH.stepped h2
      exact ⟨GL.out.1.step hs hb ha, GL.out.2.1.step ha (by omega) (by omega), GL.out.2.2.1.ah ha (by omega), GL.out.2.2.2.ah ha (by omega)⟩
  have HS1 : Hid (SBR (W2.alloc (.cells #[.int .i64 0, .int .i64 1, .int .i64 500, .int .i64 499, .int .i64 2000, .int .i64 1999, .int .i64 100, .int .i64 (-1)] 2)) B (B + 1) s t o va n vc a0 a1 a2 a3 a4) := G2.out.2.1.keep ((Below.refl _ _).alloc (Nat.le_refl _) _)
  have HS0 : Hid (SBR W2 B (B + 1) s t o va n vc a0 a1 a2 a3 a4) := G2.out.2.1
  have HKC : Hid (∀ Z, SBR Z B (B + 1) s t o va n vc a0 a1 a2 a3 a4 → Z.cell? ⟨B, 0, none⟩ = some (.int .i64 s) ∧ Z.cell? ⟨B, 1, none⟩ = some (.int .i64 t) ∧ Z.cell? ⟨B, 2, none⟩ = some (.int .i64 o) ∧ Z.cell? ⟨B, 3, none⟩ = some (.slice va n vc) ∧ Z.cell? ⟨B + 1, 0, none⟩ = some (.int .i64 a0) ∧ Z.cell? ⟨B + 1, 1, none⟩ = some (.int .i64 a1) ∧ Z.cell? ⟨B + 1, 2, none⟩ = some (.int .i64 a2) ∧ Z.cell? ⟨B + 1, 3, none⟩ = some (.int .i64 a3) ∧ Z.cell? ⟨B + 1, 4, none⟩ = some (.int .i64 a4)) := fun Z h => h
  have HKS : Hid (∀ Z i y, SBR Z B (B + 1) s t o va n vc a0 a1 a2 a3 a4 → SBR (Z.setCell ⟨N, i, none⟩ y) B (B + 1) s t o va n vc a0 a1 a2 a3 a4) := fun Z i y h => h.off (by omega) (by omega)
  have HKT : Hid (∀ Z i y, SBR Z B (B + 1) s t o va n vc a0 a1 a2 a3 a4 → SBR (Z.setCell ⟨N + 1, i, none⟩ y) B (B + 1) s t o va n vc a0 a1 a2 a3 a4) := fun Z i y h => h.off (by omega) (by omega)
  have HKD : Hid (∀ Z, SBR Z B (B + 1) s t o va n vc a0 a1 a2 a3 a4 → SBR Z.drew B (B + 1) s t o va n vc a0 a1 a2 a3 a4) := fun Z h => h
  have HLN := rulQ hln
  clear hln G2
  go_region_held3 (fun Z => Z.cell? ⟨B, 0, none⟩ = some (.int .i64 s) ∧ Z.cell? ⟨B, 1, none⟩ = some (.int .i64 t) ∧ Z.cell? ⟨B, 2, none⟩ = some (.int .i64 o) ∧ Z.cell? ⟨B, 3, none⟩ = some (.slice va n vc) ∧ Z.cell? ⟨B + 1, 0, none⟩ = some (.int .i64 a0) ∧ Z.cell? ⟨B + 1, 1, none⟩ = some (.int .i64 a1) ∧ Z.cell? ⟨B + 1, 2, none⟩ = some (.int .i64 a2) ∧ Z.cell? ⟨B + 1, 3, none⟩ = some (.int .i64 a3) ∧ Z.cell? ⟨B + 1, 4, none⟩ = some (.int .i64 a4))
    (first | ((with_reducible refine HKC.out _ ?_); (repeat (first | with_reducible exact HS0.out | with_reducible exact HS1.out | with_reducible exact HSA.out | with_reducible refine HKS.out _ _ _ ?_ | with_reducible refine HKT.out _ _ _ ?_ | with_reducible refine HKD.out _ ?_))))
    (first
    | (go_at_call 39; (with_reducible refine HP.out.mono ?_); rintro r wa ⟨⟨x, hx, rfl⟩, g⟩; have GA := hid12 g; have hxb : -1 ≤ x ∧ x ≤ 2000 := (by simp only [List.mem_cons, List.not_mem_nil, or_false] at hx; omega); have wx : IntKind.i64.wrap (now + x) = now + x := (by rw [IntKind.wrap_i64]; omega); clear hx g; obtain ⟨p0, p1, p2, p3, pf, _⟩ := GA.out.2.2.1; obtain ⟨x0, x1, x2, x3, x4, xf, _⟩ := GA.out.2.2.2; have pf0 := pf 0; have pf1 := pf 1; have pf2 := pf 2; have pf3 := pf 3; have xf0 := xf 0; have xf1 := xf 1; have xf2 := xf 2; have xf3 := xf 3; have xf4 := xf 4; clear pf xf; have GF := hid12 GA.out.1; have HSA := hid12 GA.out.2.1; clear GA))
  all_goals
    go_wp2_with fail
    exact bodyPost_ret (v := .tuple #[.agg #[.int .i64 s, .int .i64 t, .int .i64 o, .slice va n vc], .agg #[.int .i64 a0, .int .i64 a1, .int .i64 a2, .int .i64 a3, .int .i64 a4], .int .i64 (now + x)]) (by simp [results, Try.results25, go_sem, p0, p1, p2, p3, x0, x1, x2, x3, x4]) rfl (AskB.mk HLN.out (by omega) (by omega) (FinP.in (SB := N + 4) (a := a) (len := len) (cap := cap) (k := k + 1) (n := n) (vc := vc) (by repeat (first | with_reducible exact GF.out | with_reducible refine FinP.set ?_ (by omega) | with_reducible refine FinP.drw ?_)) HN.out))
set_option linter.unusedSimpArgs false in
set_option maxRecDepth 100000 in
set_option maxHeartbeats 32000000 in
theorem drawNote_any (w : World) (a : Option Addr) (len cap : Nat) (N : Nat) (hN : w.heap.size = N) (hc : CodeRow w N a len) (hl3 : len ≤ 1048576) :
    Calls Try.prog 32 #[.slice a len cap] w fun e w' => AskN w w' e := by
  have hl2 : len ≤ 1048577 := by omega
  have HC := rulQ hc
  obtain ⟨V1, hV1⟩ : ∃ V, V = w.alloc (.cells #[.int .i64 0, .int .i64 0, .int .i64 0, .slice none 0 0] 51) := ⟨_, rfl⟩
  obtain ⟨V2, hV2⟩ : ∃ V, V = V1.alloc (.cells #[.int .i64 0, .int .i64 0, .int .i64 0, .int .i64 0, .int .i64 0] 53) := ⟨_, rfl⟩
  have z1 : V1.heap.size = N + 1 := by rw [hV1, ← hN]; simp
  have z2 : V2.heap.size = N + 2 := by rw [hV2]; simp [z1]
  have b1 : Below w.heap.size w V1 := by rw [hV1]; exact (Below.refl _ _).alloc (Nat.le_refl _) _
  have b2 : Below V1.heap.size V1 V2 := by rw [hV2]; exact (Below.refl _ _).alloc (Nat.le_refl _) _
  have b12 : Below N w V2 := by rw [← hN]; exact b1.trans (b2.mono b1.size)
  have q0 : S4 V2 N (.int .i64 0) (.int .i64 0) (.int .i64 0) (.slice none 0 0) := by
    have := S4.new w (.int .i64 0) (.int .i64 0) (.int .i64 0) (.slice none 0 0) 51
    rw [← hV1, hN] at this
    exact this.keep b2
  have q1 : S5 V2 (N + 1) (.int .i64 0) (.int .i64 0) (.int .i64 0) (.int .i64 0) (.int .i64 0) := by
    have := S5.new V1 (.int .i64 0) (.int .i64 0) (.int .i64 0) (.int .i64 0) (.int .i64 0) 53
    rw [← hV2, z1] at this
    exact this
  have HB := rulQ b12
  have HQ := rulQ (show S4 V2 N (.int .i64 0) (.int .i64 0) (.int .i64 0) (.slice none 0 0) ∧ S5 V2 (N + 1) (.int .i64 0) (.int .i64 0) (.int .i64 0) (.int .i64 0) (.int .i64 0) from ⟨q0, q1⟩)
  have HBE : Hid (Calls Try.prog 25 #[.slice a len cap] V2 fun e w' => AskB V2 w' e) := drawAllow_any V2 a len cap (N + 2) z2 ((hc.below b12).mono (by omega)) hl3
  have HZ2 := rulQ z2
  have HV1 := rulQ hV1
  have HV2 := rulQ hV2
  clear b1 b2 b12 q0 q1 hV1 hV2 hc z1 z2
  go_enter Try.func32, Try.ntmps32
  go_upto_region 1 with fail
  rw [← HV1.out, ← HV2.out]
  clear HV1 HV2
  go_wp2_with fail
  refine HBE.out.mono ?_
  rintro r w1 ⟨s, t, o, now, a0, a1, a2, a3, a4, va, n, vc, l, rfl, hln, hn61, hnow, hf⟩
  rw [HZ2.out] at hf
  have hlo := hf.lo
  have hsz : N + 2 ≤ w1.heap.size := by rw [← HZ2.out]; exact hlo.size
  have HF1 : Hid (EndP w w1 N (N + 2) va n vc l) := ⟨hf.ow.lower (by omega), HB.out.trans (hlo.mono (by omega)), Nat.le_refl _⟩
  have HQ1 := rulQ (show S4 w1 N (.int .i64 0) (.int .i64 0) (.int .i64 0) (.slice none 0 0) ∧ S5 w1 (N + 1) (.int .i64 0) (.int .i64 0) (.int .i64 0) (.int .i64 0) (.int .i64 0) from ⟨HQ.out.1.low hlo (by omega), HQ.out.2.low hlo (by omega)⟩)
  clear hf HBE HB HQ hlo HZ2
  obtain ⟨W2, hW2⟩ : ∃ W, W = (w1.alloc (.cells #[.int .i64 s, .int .i64 t, .int .i64 o, .slice va n vc] 51)).alloc (.cells #[.int .i64 a0, .int .i64 a1, .int .i64 a2, .int .i64 a3, .int .i64 a4] 53) := ⟨_, rfl⟩
  obtain ⟨B, hB⟩ : ∃ B, w1.heap.size = B := ⟨_, rfl⟩
  have hBN : N + 2 ≤ B := by rw [← hB]; exact hsz
  have bA : Below w1.heap.size w1 (w1.alloc (.cells #[.int .i64 s, .int .i64 t, .int .i64 o, .slice va n vc] 51)) := (Below.refl _ _).alloc (Nat.le_refl _) _
  have bB : Below (w1.alloc (.cells #[.int .i64 s, .int .i64 t, .int .i64 o, .slice va n vc] 51)).heap.size (w1.alloc (.cells #[.int .i64 s, .int .i64 t, .int .i64 o, .slice va n vc] 51)) W2 := by rw [hW2]; exact (Below.refl _ _).alloc (Nat.le_refl _) _
  have b2 : Below w1.heap.size w1 W2 := bA.trans (bB.mono bA.size)
  have sA := S4.new w1 (.int .i64 s) (.int .i64 t) (.int .i64 o) (.slice va n vc) 51
  have sB := S5.new (w1.alloc (.cells #[.int .i64 s, .int .i64 t, .int .i64 o, .slice va n vc] 51)) (.int .i64 a0) (.int .i64 a1) (.int .i64 a2) (.int .i64 a3) (.int .i64 a4) 53
  rw [show (w1.alloc (.cells #[.int .i64 s, .int .i64 t, .int .i64 o, .slice va n vc] 51)).heap.size = B + 1 by rw [← hB]; simp, ← hW2] at sB
  rw [hB] at sA
  have sA2 := sA.keep bB
  have E2 := HF1.out.keep b2 (by omega)
  have hsz2 : B + 2 ≤ W2.heap.size := sB.lt
  have HG : Hid (∀ X, Below W2.heap.size W2 X → EndP w X N (N + 2) va n vc l ∧ SBR X B (B + 1) s t o va n vc a0 a1 a2 a3 a4 ∧ S4 X N (.int .i64 0) (.int .i64 0) (.int .i64 0) (.slice none 0 0) ∧ S5 X (N + 1) (.int .i64 0) (.int .i64 0) (.int .i64 0) (.int .i64 0) (.int .i64 0) ∧ CodeRow X X.heap.size a len) := fun X hX => ⟨E2.keep hX (by omega), (show SBR W2 B (B + 1) s t o va n vc a0 a1 a2 a3 a4 from ⟨sA2.c0, sA2.c1, sA2.c2, sA2.c3, sB.c0, sB.c1, sB.c2, sB.c3, sB.c4⟩).keep hX, (HQ1.out.1.keep b2).keep hX, (HQ1.out.2.keep b2).keep hX, (HC.out.below (E2.keep hX (by omega)).lo).mono (by have := hX.size; omega)⟩
  have HW2 := rulQ hW2
  clear bA bB b2 sA sB sA2 HF1 HQ1 hW2 E2
  go_upto_region 2 with fail
  try simp only [hB]
  rw [← HW2.out]
  clear HW2 hB
  have HN := rulQ hN
  have D0 : Hid (Below W2.heap.size W2 W2.drew) := (Below.refl _ _).drew
  have HL : Hid (∀ X, Below W2.heap.size W2 X → Calls Try.prog 72 #[.slice a len cap, .int .i64 2] X fun e w' => e = .returned (.pointer (some ⟨X.heap.size, 0, none⟩)) ∧ Src w' X.heap.size a len cap 19 ∧ Below W2.heap.size W2 w') := fun X hX => (l1Later_any X a len cap 2 (by omega) (HG.out X hX).2.2.2.2).mono fun _ _ ⟨h1, h2, h3⟩ => ⟨h1, h2, hX.trans (h3.mono hX.size)⟩
  have HCH : Hid (∀ X M, Src X M a len cap 19 → Below W2.heap.size W2 X → W2.heap.size ≤ M → Calls Try.prog 56 #[.pointer (some ⟨M, 0, none⟩), .int .i64 2] X fun e w' => (∃ b : Bool, e = .returned (.bool b)) ∧ Below W2.heap.size W2 w') := fun X M hs hX hM => (l1Chance_h X M a len cap 19 2 hs (by omega) (by omega) (by omega) hl2).mono fun _ _ ⟨h1, _, h3, _⟩ => ⟨h1, hX.trans (h3.mono hM)⟩
  have HS0 : Hid (SBR W2 B (B + 1) s t o va n vc a0 a1 a2 a3 a4) := (HG.out _ (Below.refl _ _)).2.1
  have HKC : Hid (∀ Z, SBR Z B (B + 1) s t o va n vc a0 a1 a2 a3 a4 → Z.cell? ⟨B, 0, none⟩ = some (.int .i64 s) ∧ Z.cell? ⟨B, 1, none⟩ = some (.int .i64 t) ∧ Z.cell? ⟨B, 2, none⟩ = some (.int .i64 o) ∧ Z.cell? ⟨B, 3, none⟩ = some (.slice va n vc) ∧ Z.cell? ⟨B + 1, 0, none⟩ = some (.int .i64 a0) ∧ Z.cell? ⟨B + 1, 1, none⟩ = some (.int .i64 a1) ∧ Z.cell? ⟨B + 1, 2, none⟩ = some (.int .i64 a2) ∧ Z.cell? ⟨B + 1, 3, none⟩ = some (.int .i64 a3) ∧ Z.cell? ⟨B + 1, 4, none⟩ = some (.int .i64 a4)) := fun Z h => h
  have HKS : Hid (∀ Z i y, SBR Z B (B + 1) s t o va n vc a0 a1 a2 a3 a4 → SBR (Z.setCell ⟨N, i, none⟩ y) B (B + 1) s t o va n vc a0 a1 a2 a3 a4) := fun Z i y h => h.off (by omega) (by omega)
  have HKT : Hid (∀ Z i y, SBR Z B (B + 1) s t o va n vc a0 a1 a2 a3 a4 → SBR (Z.setCell ⟨N + 1, i, none⟩ y) B (B + 1) s t o va n vc a0 a1 a2 a3 a4) := fun Z i y h => h.off (by omega) (by omega)
  have HKD : Hid (∀ Z, SBR Z B (B + 1) s t o va n vc a0 a1 a2 a3 a4 → SBR Z.drew B (B + 1) s t o va n vc a0 a1 a2 a3 a4) := fun Z h => h
  have HLN := rulQ hln
  clear hln
  go_region_held3 (fun Z => Z.cell? ⟨B, 0, none⟩ = some (.int .i64 s) ∧ Z.cell? ⟨B, 1, none⟩ = some (.int .i64 t) ∧ Z.cell? ⟨B, 2, none⟩ = some (.int .i64 o) ∧ Z.cell? ⟨B, 3, none⟩ = some (.slice va n vc) ∧ Z.cell? ⟨B + 1, 0, none⟩ = some (.int .i64 a0) ∧ Z.cell? ⟨B + 1, 1, none⟩ = some (.int .i64 a1) ∧ Z.cell? ⟨B + 1, 2, none⟩ = some (.int .i64 a2) ∧ Z.cell? ⟨B + 1, 3, none⟩ = some (.int .i64 a3) ∧ Z.cell? ⟨B + 1, 4, none⟩ = some (.int .i64 a4))
    (first | ((with_reducible refine HKC.out _ ?_); (repeat (first | with_reducible exact HS0.out | with_reducible exact HSL.out | with_reducible exact HSA.out | with_reducible refine HKS.out _ _ _ ?_ | with_reducible refine HKT.out _ _ _ ?_ | with_reducible refine HKD.out _ ?_))))
    (first
    | (go_at_call 72; (with_reducible refine (HL.out _ ?_).mono ?_); (with_reducible exact D0.out); rintro r wl ⟨rfl, hs, hb⟩; have DL : Hid (Src wl W2.heap.size a len cap 19 ∧ Below W2.heap.size W2 wl) := ⟨hs, hb⟩; have HSL := hid12 (HG.out _ hb).2.1; clear hs hb)
    | (go_at_call 56; (with_reducible refine (HCH.out _ _ ?_ ?_ ?_).mono ?_); (with_reducible exact DL.out.1); (with_reducible exact DL.out.2); (with_reducible exact Nat.le_refl _); rintro r wa ⟨⟨g, rfl⟩, hb⟩; have GA := hid12 (HG.out _ hb); clear hb; obtain ⟨p0, p1, p2, p3, pf, _⟩ := GA.out.2.2.1; obtain ⟨x0, x1, x2, x3, x4, xf, _⟩ := GA.out.2.2.2.1; have pf0 := pf 0; have pf1 := pf 1; have pf2 := pf 2; have pf3 := pf 3; have xf0 := xf 0; have xf1 := xf 1; have xf2 := xf 2; have xf3 := xf 3; have xf4 := xf 4; clear pf xf; have GF := hid12 GA.out.1; have HSA := hid12 GA.out.2.1; clear GA))
  all_goals
    go_wp2_with fail
    exact bodyPost_ret (v := .tuple #[.agg #[.int .i64 s, .int .i64 t, .int .i64 o, .slice va n vc], .agg #[.int .i64 a0, .int .i64 a1, .int .i64 a2, .int .i64 a3, .int .i64 a4], .int .i64 now, .bool g]) (by simp [results, Try.results32, go_sem, p0, p1, p2, p3, x0, x1, x2, x3, x4]) rfl (AskN.mk HLN.out (by omega) (by omega) (EndP.at (by repeat (first | with_reducible exact GF.out | with_reducible refine EndP.set ?_ (by omega) | with_reducible refine EndP.drw ?_)) HN.out))
end Go.Proofs.Ytmgidcigihpbeaa
