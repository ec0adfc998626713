/-
  The source of draws: what the model's l1Next does.
-/
import Derived.Test.YtmgidcigihpbeaaBase
import Derived.BigQuiet
namespace Go.Proofs.Ytmgidcigihpbeaa
open Go.ChangeShapes Go.WideShapes Go.ChangeAt Go.RowKit
/-- Bytes that came in, at a, len of them. -/
def CodeRow (w : World) (B : Nat) (a : Option Addr) (len : Nat) : Prop :=
  len = 0 ∨ ∃ b off, a = some ⟨b, off, none⟩ ∧ b < B ∧ ∃ f : Nat → Int, ∀ i, i < len → w.cell? ⟨b, off + i, none⟩ = some (.int .u8 (f i)) ∧ 0 ≤ f i ∧ f i ≤ 255
/-- A source of draws in block B: the code, and how many draws were made. -/
structure Src (w : World) (B : Nat) (a : Option Addr) (len cap k : Nat) : Prop where
  c0 : w.cell? ⟨B, 0, none⟩ = some (.slice a len cap)
  c1 : w.cell? ⟨B, 1, none⟩ = some (.int .i64 (k : Int))
  f1 : w.frozen? ⟨B, 1, none⟩ = false
  row : CodeRow w B a len
theorem CodeRow.below {w w' : World} {B : Nat} {a : Option Addr} {len : Nat} (h : CodeRow w B a len) (hb : Below B w w') : CodeRow w' B a len := by
  rcases h with h | ⟨b, off, e, hlt, f, hf⟩
  · exact .inl h
  · refine .inr ⟨b, off, e, hlt, f, fun i hi => ?_⟩
    rw [hb.cell (p := ⟨b, off + i, none⟩) hlt]
    exact hf i hi
theorem CodeRow.mono {w : World} {B B' : Nat} {a : Option Addr} {len : Nat} (h : CodeRow w B a len) (hB : B ≤ B') : CodeRow w B' a len := by
  rcases h with h | ⟨b, off, e, hlt, f, hf⟩
  · exact .inl h
  · exact .inr ⟨b, off, e, by omega, f, hf⟩
theorem codeRow_of {W : World} {x : Addr} {len cap : Nat} {zs : List Int} (hl : len ≤ cap) (hz : zs.length = cap) (hcell : ∀ i, i < zs.length → W.cell? (x.add i) = some (.int .u8 (zs.getD i 0))) (hwz : ∀ n ∈ zs, (Lit.int .u8 n).wf = true) : CodeRow W W.heap.size (some x) len := by
  by_cases h0 : len = 0
  · exact .inl h0
  · obtain ⟨b, off, spot⟩ := x
    have hc := hcell 0 (by omega)
    have hspot : spot = none := by simpa [Addr.add] using World.cell?_spot hc
    subst hspot
    have hadd : ∀ i, (⟨b, off, none⟩ : Addr).add i = ⟨b, off + i, none⟩ := fun i => by unfold Addr.add; split <;> simp_all
    rw [hadd] at hc
    refine .inr ⟨b, off, rfl, block_lt_of_cell hc, fun i => zs.getD i 0, fun i hi => ?_⟩
    have hi2 : i < zs.length := by omega
    have h1 := hcell i hi2
    rw [hadd] at h1
    have hm : zs.getD i 0 ∈ zs := by
      rw [List.getD_eq_getElem?_getD, List.getElem?_eq_getElem hi2]
      exact List.getElem_mem hi2
    have h2 := hwz _ hm
    simp only [Lit.wf, Bool.and_eq_true, decide_eq_true_eq] at h2
    exact ⟨h1, h2.1, h2.2⟩
theorem Src.below {w w' : World} {B : Nat} {a : Option Addr} {len cap k : Nat} (h : Src w B a len cap k) (hb : Below (B + 1) w w') : Src w' B a len cap k where
  c0 := by rw [hb.cell (p := ⟨B, 0, none⟩) (Nat.lt_succ_self _)]; exact h.c0
  c1 := by rw [hb.cell (p := ⟨B, 1, none⟩) (Nat.lt_succ_self _)]; exact h.c1
  f1 := by rw [hb.frozen (p := ⟨B, 1, none⟩) (Nat.lt_succ_self _)]; exact h.f1
  row := h.row.below (hb.mono (Nat.le_succ _))
theorem Src.next {w : World} {B : Nat} {a : Option Addr} {len cap k : Nat} (h : Src w B a len cap k) (m : Nat) : Src ((w.setCell ⟨B, 1, none⟩ (.int .i64 ((k : Int) + 1))).drewN m) B a len cap (k + 1) where
  c0 := by
    rw [World.cell?_drewN, World.cell?_setCell_other _ _ _ _ (by intro h; have := congrArg Addr.off h; simp at this)]
    exact h.c0
  c1 := by
    rw [World.cell?_drewN, World.cell?_setCell_same _ _ _ h.c1]
    simp
  f1 := by
    rw [World.frozen?_drewN, World.frozen?_setCell]
    exact h.f1
  row := by
    have hb : Below B w ((w.setCell ⟨B, 1, none⟩ (.int .i64 ((k : Int) + 1))).drewN m) := below_drewN ((Below.refl B w).setCell (Nat.le_refl _) _) m
    exact h.row.below hb
set_option maxHeartbeats 1000000 in
theorem l1Next_empty (w : World) (B : Nat) (a : Option Addr) (cap k : Nat) (n : Int)
    (c0 : w.cell? ⟨B, 0, none⟩ = some (.slice a 0 cap)) (c1 : w.cell? ⟨B, 1, none⟩ = some (.int .i64 (k : Int))) (f1 : w.frozen? ⟨B, 1, none⟩ = false)
    (hk : (k : Int) ≤ 1000000) (hn : 1 ≤ n) (hn2 : n ≤ 1000000) :
    Calls Try.prog 57 #[.pointer (some ⟨B, 0, none⟩), .int .i64 n] w fun e w' => e = .returned (.int .i64 ((k : Int) * 7 % n)) ∧ w' = w.setCell ⟨B, 1, none⟩ (.int .i64 ((k : Int) + 1)) := by
  have n0 : ¬ n < 1 := by omega
  have n1 : ¬ n = 0 := by omega
  go_enter Try.func57, Try.ntmps57
  go_wp2
  go_ret
  exact ⟨rfl, rfl⟩
set_option maxHeartbeats 1000000 in
theorem l1Next_some (w : World) (B : Nat) (b off len cap k : Nat) (n : Int) (hne : b ≠ B) (f : Nat → Int)
    (c0 : w.cell? ⟨B, 0, none⟩ = some (.slice (some ⟨b, off, none⟩) len cap)) (c1 : w.cell? ⟨B, 1, none⟩ = some (.int .i64 (k : Int))) (f1 : w.frozen? ⟨B, 1, none⟩ = false)
    (hk : (k : Int) ≤ 1000000) (hn : 1 ≤ n) (hn2 : n ≤ 1000000) (hl : 0 < len) (hl2 : len ≤ 1048577)
    (hc : ∀ i, i < len → w.cell? ⟨b, off + i, none⟩ = some (.int .u8 (f i)) ∧ 0 ≤ f i ∧ f i ≤ 255) :
    Calls Try.prog 57 #[.pointer (some ⟨B, 0, none⟩), .int .i64 n] w fun e w' => (∃ v : Int, 0 ≤ v ∧ v < n ∧ e = .returned (.int .i64 v)) ∧ ∃ m, w' = (w.setCell ⟨B, 1, none⟩ (.int .i64 ((k : Int) + 1))).drewN m := by
  have n0 : ¬ n < 1 := by omega
  have n1 : ¬ n = 0 := by omega
  have l0 : ((len : Int) == 0) = false := by simp; omega
  have l1 : ¬ (len : Int) = 0 := by omega
  have l2 : ¬ len = 0 := by omega
  obtain ⟨r1, e1, hr1⟩ : ∃ r : Nat, (k : Int).tmod (len : Int) = (r : Int) ∧ r < len := ⟨k % len, by rw [Int.tmod_eq_emod_of_nonneg (by omega)]; simp, Nat.mod_lt _ hl⟩
  obtain ⟨r2, e2, hr2⟩ : ∃ r : Nat, ((k : Int) + 1).tmod (len : Int) = (r : Int) ∧ r < len := ⟨(k + 1) % len, by rw [Int.tmod_eq_emod_of_nonneg (by omega)]; simp, Nat.mod_lt _ hl⟩
  obtain ⟨r3, e3, hr3⟩ : ∃ r : Nat, ((k : Int) + 2).tmod (len : Int) = (r : Int) ∧ r < len := ⟨(k + 2) % len, by rw [Int.tmod_eq_emod_of_nonneg (by omega)]; simp, Nat.mod_lt _ hl⟩
  obtain ⟨q1, e4, hq1⟩ : ∃ q : Nat, (k : Int).tdiv (len : Int) = (q : Int) ∧ q ≤ k := ⟨k / len, by rw [Int.tdiv_eq_ediv_of_nonneg (by omega)]; simp, Nat.div_le_self _ _⟩
  obtain ⟨d1, z10, z11⟩ := hc r1 hr1
  obtain ⟨d2, z20, z21⟩ := hc r2 hr2
  obtain ⟨d3, z30, z31⟩ := hc r3 hr3
  generalize f r1 = z1 at *
  generalize f r2 = z2 at *
  generalize f r3 = z3 at *
  have hne2 : ¬ B = b := fun h => hne h.symm
  have hq2 : (q1 : Int) ≤ 1000000 := by omega
  clear hc hq1
  by_cases g1 : 200 < n
  · by_cases g2 : 60000 < n
    · go_enter Try.func57, Try.ntmps57
      go_wp2
      go_quiet (fail)
      go_wp2
      go_quiet (fail)
      go_wp2
      go_quiet (fail)
      go_wp2
      go_ret
      exact ⟨⟨_, Int.emod_nonneg _ n1, Int.emod_lt_of_pos _ (by omega), rfl⟩, _, rfl⟩
    · go_enter Try.func57, Try.ntmps57
      go_wp2
      go_quiet (fail)
      go_wp2
      go_quiet (fail)
      go_wp2
      go_ret
      exact ⟨⟨_, Int.emod_nonneg _ n1, Int.emod_lt_of_pos _ (by omega), rfl⟩, _, rfl⟩
  · go_enter Try.func57, Try.ntmps57
    go_wp2
    go_quiet (fail)
    go_wp2
    go_ret
    exact ⟨⟨_, Int.emod_nonneg _ n1, Int.emod_lt_of_pos _ (by omega), rfl⟩, _, rfl⟩
theorem l1Next_any (w : World) (B : Nat) (a : Option Addr) (len cap k : Nat) (n : Int) (hs : Src w B a len cap k)
    (hk : k ≤ 1000000) (hn : 1 ≤ n) (hn2 : n ≤ 1000000) (hl2 : len ≤ 1048577) :
    Calls Try.prog 57 #[.pointer (some ⟨B, 0, none⟩), .int .i64 n] w fun e w' => (∃ v : Int, 0 ≤ v ∧ v < n ∧ e = .returned (.int .i64 v)) ∧ ∃ m, w' = (w.setCell ⟨B, 1, none⟩ (.int .i64 ((k : Int) + 1))).drewN m := by
  by_cases hl : len = 0
  · subst hl
    refine (l1Next_empty w B a cap k n hs.c0 hs.c1 hs.f1 (by omega) hn hn2).mono ?_
    rintro e w' ⟨rfl, rfl⟩
    exact ⟨⟨_, Int.emod_nonneg _ (by omega), Int.emod_lt_of_pos _ (by omega), rfl⟩, 0, rfl⟩
  · rcases hs.row with h | ⟨b, off, rfl, hlt, f, hf⟩
    · exact absurd h hl
    · exact l1Next_some w B b off len cap k n (by omega) f hs.c0 hs.c1 hs.f1 (by omega) hn hn2 (by omega) hl2 hf
end Go.Proofs.Ytmgidcigihpbeaa
