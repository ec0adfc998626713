/-
  Texts of one claim, one behind the other.
-/
import Derived.Below
import Derived.BigQuiet
import Derived.Deep.AppendLies
import Derived.Deep.CutRange
import Derived.Deep.QuietTactic
import Derived.Deep.RegionHeld3
import Derived.Deep.RegionWith
import Derived.Deep.Slices
import Derived.Deep.Strs
import Derived.Laws.IdiomStrings
import Derived.Laws.OwnMore
import Derived.Lib.QuietBelow
import Derived.Lib.SliceRun
import Derived.OpenShut
import Derived.ProofKit
import Derived.Shelf.Abstract
import Derived.Test.YtmgidcigihpbeaaProg
import Derived.WalkKit
import Derived.WalkLawsBesides
import Derived.WalkSmall
import Derived.WalkSpells
/-
  Small lemmas that the walks share.
-/
namespace Go.Proofs.Ytmgidcigihpbeaa
open Go.ChangeShapes Go.WideShapes Go.ChangeAt Go.RowKit
theorem bcell {W w1 : World} (hb : Below W.heap.size W w1) : (∀ b o, b < W.heap.size → w1.cell? ⟨b, o, none⟩ = W.cell? ⟨b, o, none⟩) ∧ (∀ b o, b < W.heap.size → w1.frozen? ⟨b, o, none⟩ = W.frozen? ⟨b, o, none⟩) :=
  ⟨fun b o h => hb.cell (p := ⟨b, o, none⟩) h, fun b o h => hb.frozen (p := ⟨b, o, none⟩) h⟩
theorem two_set {w : World} {B : Nat} {u0 u1 v0 v1 : Value} (p0 : w.cell? ⟨B, 0, none⟩ = some u0) (p1 : w.cell? ⟨B, 1, none⟩ = some u1) :
    ((w.setCell ⟨B, 0, none⟩ v0).setCell ⟨B, 1, none⟩ v1).cell? ⟨B, 0, none⟩ = some v0 ∧ ((w.setCell ⟨B, 0, none⟩ v0).setCell ⟨B, 1, none⟩ v1).cell? ⟨B, 1, none⟩ = some v1 := by
  constructor
  · rw [World.cell?_setCell_other _ _ _ _ (by intro h; have := congrArg Addr.off h; simp at this), World.cell?_setCell_same _ _ _ p0]
  · refine World.cell?_setCell_same _ _ _ (u := u1) ?_
    rw [World.cell?_setCell_other _ _ _ _ (by intro h; have := congrArg Addr.off h; simp at this), p1]
theorem ret_int {k : IntKind} {a b : Int} (h : a = b) : Ending.returned (.int k a) = .returned (.int k b) := by rw [h]
theorem ret_bool {a b : Bool} (h : a = b) : Ending.returned (.bool a) = .returned (.bool b) := by rw [h]
theorem ret_str {a b : ByteArray} (h : a = b) : Ending.returned (.string a) = .returned (.string b) := by rw [h]
theorem take_snoc (s : ByteArray) (k : Nat) (h : k < s.size) : s.data.toList.take (k + 1) = s.data.toList.take k ++ [s[k]] := by
  rw [List.take_succ_eq_append_getElem (by simpa using h)]; rfl
end Go.Proofs.Ytmgidcigihpbeaa
/-
  The source of draws: what the model's l1Next does.
-/
namespace Go.Proofs.Ytmgidcigihpbeaa
open Go.ChangeShapes Go.WideShapes Go.ChangeAt Go.RowKit
/-- Bytes that came in, at a, len of them. -/
def CodeRow (w : World) (B : Nat) (a : Option Addr) (len : Nat) : Prop :=
  len = 0 ∨ ∃ b off, a = some ⟨b, off, none⟩ ∧ b < B ∧ ∃ f : Nat → Int, ∀ i, i < len → w.cell? ⟨b, off + i, none⟩ = some (.int .u8 (f i)) ∧ 0 ≤ f i ∧ f i ≤ 255
/-- A source of draws in block B: the code, and how many draws were made. -/
structure Src (w : World) (B : Nat) (a : Option Addr) (len cap k : Nat) : Prop where
  c0 : w.cell? ⟨B, 0, none⟩ = some (.slice a len cap)
  c1 : w.cell? ⟨B, 1, none⟩ = some (.int .i64 (k : Int))
  f1 : w.frozen? ⟨B, 1, none⟩ = false
  row : CodeRow w B a len
theorem CodeRow.below {w w' : World} {B : Nat} {a : Option Addr} {len : Nat} (h : CodeRow w B a len) (hb : Below B w w') : CodeRow w' B a len := by
  rcases h with h | ⟨b, off, e, hlt, f, hf⟩
  · exact .inl h
  · refine .inr ⟨b, off, e, hlt, f, fun i hi => ?_⟩
    rw [hb.cell (p := ⟨b, off + i, none⟩) hlt]
    exact hf i hi
theorem CodeRow.mono {w : World} {B B' : Nat} {a : Option Addr} {len : Nat} (h : CodeRow w B a len) (hB : B ≤ B') : CodeRow w B' a len := by
  rcases h with h | ⟨b, off, e, hlt, f, hf⟩
  · exact .inl h
  · exact .inr ⟨b, off, e, by omega, f, hf⟩
theorem codeRow_of {W : World} {x : Addr} {len cap : Nat} {zs : List Int} (hl : len ≤ cap) (hz : zs.length = cap) (hcell : ∀ i, i < zs.length → W.cell? (x.add i) = some (.int .u8 (zs.getD i 0))) (hwz : ∀ n ∈ zs, (Lit.int .u8 n).wf = true) : CodeRow W W.heap.size (some x) len := by
  by_cases h0 : len = 0
  · exact .inl h0
  · obtain ⟨b, off, spot⟩ := x
    have hc := hcell 0 (by omega)
    have hspot : spot = none := by simpa [Addr.add] using World.cell?_spot hc
    subst hspot
    have hadd : ∀ i, (⟨b, off, none⟩ : Addr).add i = ⟨b, off + i, none⟩ := fun i => by unfold Addr.add; split <;> simp_all
    rw [hadd] at hc
    refine .inr ⟨b, off, rfl, block_lt_of_cell hc, fun i => zs.getD i 0, fun i hi => ?_⟩
    have hi2 : i < zs.length := by omega
    have h1 := hcell i hi2
    rw [hadd] at h1
    have hm : zs.getD i 0 ∈ zs := by
      rw [List.getD_eq_getElem?_getD, List.getElem?_eq_getElem hi2]
      exact List.getElem_mem hi2
    have h2 := hwz _ hm
    simp only [Lit.wf, Bool.and_eq_true, decide_eq_true_eq] at h2
    exact ⟨h1, h2.1, h2.2⟩
theorem Src.below {w w' : World} {B : Nat} {a : Option Addr} {len cap k : Nat} (h : Src w B a len cap k) (hb : Below (B + 1) w w') : Src w' B a len cap k where
  c0 := by rw [hb.cell (p := ⟨B, 0, none⟩) (Nat.lt_succ_self _)]; exact h.c0
  c1 := by rw [hb.cell (p := ⟨B, 1, none⟩) (Nat.lt_succ_self _)]; exact h.c1
  f1 := by rw [hb.frozen (p := ⟨B, 1, none⟩) (Nat.lt_succ_self _)]; exact h.f1
  row := h.row.below (hb.mono (Nat.le_succ _))
theorem Src.next {w : World} {B : Nat} {a : Option Addr} {len cap k : Nat} (h : Src w B a len cap k) (m : Nat) : Src ((w.setCell ⟨B, 1, none⟩ (.int .i64 ((k : Int) + 1))).drewN m) B a len cap (k + 1) where
  c0 := by
    rw [World.cell?_drewN, World.cell?_setCell_other _ _ _ _ (by intro h; have := congrArg Addr.off h; simp at this)]
    exact h.c0
  c1 := by
    rw [World.cell?_drewN, World.cell?_setCell_same _ _ _ h.c1]
    simp
  f1 := by
    rw [World.frozen?_drewN, World.frozen?_setCell]
    exact h.f1
  row := by
    have hb : Below B w ((w.setCell ⟨B, 1, none⟩ (.int .i64 ((k : Int) + 1))).drewN m) := below_drewN ((Below.refl B w).setCell (Nat.le_refl _) _) m
    exact h.row.below hb
set_option maxHeartbeats 1000000 in
theorem l1Next_empty (w : World) (B : Nat) (a : Option Addr) (cap k : Nat) (n : Int)
    (c0 : w.cell? ⟨B, 0, none⟩ = some (.slice a 0 cap)) (c1 : w.cell? ⟨B, 1, none⟩ = some (.int .i64 (k : Int))) (f1 : w.frozen? ⟨B, 1, none⟩ = false)
    (hk : (k : Int) ≤ 1000000) (hn : 1 ≤ n) (hn2 : n ≤ 1000000) :
    Calls Try.prog 57 #[.pointer (some ⟨B, 0, none⟩), .int .i64 n] w fun e w' => e = .returned (.int .i64 ((k : Int) * 7 % n)) ∧ w' = w.setCell ⟨B, 1, none⟩ (.int .i64 ((k : Int) + 1)) := by
  have n0 : ¬ n < 1 := by omega
  have n1 : ¬ n = 0 := by omega
  go_enter Try.func57, Try.ntmps57
  go_wp2
  go_ret
  exact ⟨rfl, rfl⟩
set_option maxHeartbeats 1000000 in
theorem l1Next_some (w : World) (B : Nat) (b off len cap k : Nat) (n : Int) (hne : b ≠ B) (f : Nat → Int)
    (c0 : w.cell? ⟨B, 0, none⟩ = some (.slice (some ⟨b, off, none⟩) len cap)) (c1 : w.cell? ⟨B, 1, none⟩ = some (.int .i64 (k : Int))) (f1 : w.frozen? ⟨B, 1, none⟩ = false)
    (hk : (k : Int) ≤ 1000000) (hn : 1 ≤ n) (hn2 : n ≤ 1000000) (hl : 0 < len) (hl2 : len ≤ 1048577)
    (hc : ∀ i, i < len → w.cell? ⟨b, off + i, none⟩ = some (.int .u8 (f i)) ∧ 0 ≤ f i ∧ f i ≤ 255) :
    Calls Try.prog 57 #[.pointer (some ⟨B, 0, none⟩), .int .i64 n] w fun e w' => (∃ v : Int, 0 ≤ v ∧ v < n ∧ e = .returned (.int .i64 v)) ∧ ∃ m, w' = (w.setCell ⟨B, 1, none⟩ (.int .i64 ((k : Int) + 1))).drewN m := by
  have n0 : ¬ n < 1 := by omega
  have n1 : ¬ n = 0 := by omega
  have l0 : ((len : Int) == 0) = false := by simp; omega
  have l1 : ¬ (len : Int) = 0 := by omega
  have l2 : ¬ len = 0 := by omega
  obtain ⟨r1, e1, hr1⟩ : ∃ r : Nat, (k : Int).tmod (len : Int) = (r : Int) ∧ r < len := ⟨k % len, by rw [Int.tmod_eq_emod_of_nonneg (by omega)]; simp, Nat.mod_lt _ hl⟩
  obtain ⟨r2, e2, hr2⟩ : ∃ r : Nat, ((k : Int) + 1).tmod (len : Int) = (r : Int) ∧ r < len := ⟨(k + 1) % len, by rw [Int.tmod_eq_emod_of_nonneg (by omega)]; simp, Nat.mod_lt _ hl⟩
  obtain ⟨r3, e3, hr3⟩ : ∃ r : Nat, ((k : Int) + 2).tmod (len : Int) = (r : Int) ∧ r < len := ⟨(k + 2) % len, by rw [Int.tmod_eq_emod_of_nonneg (by omega)]; simp, Nat.mod_lt _ hl⟩
  obtain ⟨q1, e4, hq1⟩ : ∃ q : Nat, (k : Int).tdiv (len : Int) = (q : Int) ∧ q ≤ k := ⟨k / len, by rw [Int.tdiv_eq_ediv_of_nonneg (by omega)]; simp, Nat.div_le_self _ _⟩
  obtain ⟨d1, z10, z11⟩ := hc r1 hr1
  obtain ⟨d2, z20, z21⟩ := hc r2 hr2
  obtain ⟨d3, z30, z31⟩ := hc r3 hr3
  generalize f r1 = z1 at *
  generalize f r2 = z2 at *
  generalize f r3 = z3 at *
  have hne2 : ¬ B = b := fun h => hne h.symm
  have hq2 : (q1 : Int) ≤ 1000000 := by omega
  clear hc hq1
  by_cases g1 : 200 < n
  · by_cases g2 : 60000 < n
    · go_enter Try.func57, Try.ntmps57
      go_wp2
      go_quiet (fail)
      go_wp2
      go_quiet (fail)
      go_wp2
      go_quiet (fail)
      go_wp2
      go_ret
      exact ⟨⟨_, Int.emod_nonneg _ n1, Int.emod_lt_of_pos _ (by omega), rfl⟩, _, rfl⟩
    · go_enter Try.func57, Try.ntmps57
      go_wp2
      go_quiet (fail)
      go_wp2
      go_quiet (fail)
      go_wp2
      go_ret
      exact ⟨⟨_, Int.emod_nonneg _ n1, Int.emod_lt_of_pos _ (by omega), rfl⟩, _, rfl⟩
  · go_enter Try.func57, Try.ntmps57
    go_wp2
    go_quiet (fail)
    go_wp2
    go_ret
    exact ⟨⟨_, Int.emod_nonneg _ n1, Int.emod_lt_of_pos _ (by omega), rfl⟩, _, rfl⟩
theorem l1Next_any (w : World) (B : Nat) (a : Option Addr) (len cap k : Nat) (n : Int) (hs : Src w B a len cap k)
    (hk : k ≤ 1000000) (hn : 1 ≤ n) (hn2 : n ≤ 1000000) (hl2 : len ≤ 1048577) :
    Calls Try.prog 57 #[.pointer (some ⟨B, 0, none⟩), .int .i64 n] w fun e w' => (∃ v : Int, 0 ≤ v ∧ v < n ∧ e = .returned (.int .i64 v)) ∧ ∃ m, w' = (w.setCell ⟨B, 1, none⟩ (.int .i64 ((k : Int) + 1))).drewN m := by
  by_cases hl : len = 0
  · subst hl
    refine (l1Next_empty w B a cap k n hs.c0 hs.c1 hs.f1 (by omega) hn hn2).mono ?_
    rintro e w' ⟨rfl, rfl⟩
    exact ⟨⟨_, Int.emod_nonneg _ (by omega), Int.emod_lt_of_pos _ (by omega), rfl⟩, 0, rfl⟩
  · rcases hs.row with h | ⟨b, off, rfl, hlt, f, hf⟩
    · exact absurd h hl
    · exact l1Next_some w B b off len cap k n (by omega) f hs.c0 hs.c1 hs.f1 (by omega) hn hn2 (by omega) hl2 hf
end Go.Proofs.Ytmgidcigihpbeaa
/-
  Picks out of lists, by the source of draws.
-/
namespace Go.Proofs.Ytmgidcigihpbeaa
open Go.ChangeShapes Go.WideShapes Go.ChangeAt Go.RowKit
set_option maxHeartbeats 1000000 in
theorem l1Chance_any (w : World) (B : Nat) (a : Option Addr) (len cap k : Nat) (n : Int) (hs : Src w B a len cap k)
    (hk : k ≤ 1000000) (hn : 1 ≤ n) (hn2 : n ≤ 1000000) (hl2 : len ≤ 1048577) :
    Calls Try.prog 56 #[.pointer (some ⟨B, 0, none⟩), .int .i64 n] w fun e w' => (∃ b : Bool, e = .returned (.bool b)) ∧ ∃ m, w' = (w.setCell ⟨B, 1, none⟩ (.int .i64 ((k : Int) + 1))).drewN m := by
  have HN : Hid (Calls Try.prog 57 #[.pointer (some ⟨B, 0, none⟩), .int .i64 n] w fun e w' => (∃ v : Int, 0 ≤ v ∧ v < n ∧ e = .returned (.int .i64 v)) ∧ ∃ m, w' = (w.setCell ⟨B, 1, none⟩ (.int .i64 ((k : Int) + 1))).drewN m) := l1Next_any w B a len cap k n hs hk hn hn2 hl2
  clear hs
  go_enter Try.func56, Try.ntmps56
  go_wp2_with fail
  refine HN.out.mono ?_
  rintro e w' ⟨⟨v, _, _, rfl⟩, m, rfl⟩
  go_wp2
  go_ret
  exact ⟨⟨_, rfl⟩, _, rfl⟩
set_option maxHeartbeats 1000000 in
theorem l1Pick_any (w : World) (B : Nat) (a : Option Addr) (len cap k : Nat) (hs : Src w B a len cap k) (L : Nat) (xs : List Int) (hL : L ≠ B)
    (n : Nat) (hn : xs.length = n) (hx : ∀ i x, xs[i]? = some x → w.cell? ⟨L, i, none⟩ = some (.int .i64 x)) (hpos : 0 < n) (hlen : n ≤ 1000)
    (hk : k ≤ 1000000) (hl2 : len ≤ 1048577) :
    Calls Try.prog 39 #[.pointer (some ⟨B, 0, none⟩), .slice (some ⟨L, 0, none⟩) n n] w fun e w' => (∃ v : Int, v ∈ xs ∧ e = .returned (.int .i64 v)) ∧ ∃ m, w' = (w.setCell ⟨B, 1, none⟩ (.int .i64 ((k : Int) + 1))).drewN m := by
  have HN : Hid (Calls Try.prog 57 #[.pointer (some ⟨B, 0, none⟩), .int .i64 (n : Int)] w fun e w' => (∃ v : Int, 0 ≤ v ∧ v < (n : Int) ∧ e = .returned (.int .i64 v)) ∧ ∃ m, w' = (w.setCell ⟨B, 1, none⟩ (.int .i64 ((k : Int) + 1))).drewN m) := l1Next_any w B a len cap k n hs hk (by omega) (by omega) hl2
  have HX : Hid (∀ i x, xs[i]? = some x → w.cell? ⟨L, i, none⟩ = some (.int .i64 x)) := hx
  have HNN : Hid (xs.length = n) := hn
  clear hs hx hn
  go_enter Try.func39, Try.ntmps39
  go_wp2_with fail
  refine HN.out.mono ?_
  rintro e w' ⟨⟨v, v0, v1, rfl⟩, m, rfl⟩
  obtain ⟨u, rfl⟩ := Int.eq_ofNat_of_zero_le v0
  have hu : u < n := by omega
  have hul : u < xs.length := by have := HNN.out; omega
  have hc : (w.setCell ⟨B, 1, none⟩ (.int .i64 ((k : Int) + 1))).cell? ⟨L, u, none⟩ = some (.int .i64 xs[u]) := by
    rw [World.cell?_setCell_other _ _ _ _ (by intro h; exact hL (congrArg Addr.block h).symm)]
    exact HX.out u _ (List.getElem?_eq_getElem hul)
  have HM : Hid (xs[u] ∈ xs) := List.getElem_mem hul
  generalize xs[u] = x at *
  go_wp2
  go_ret
  exact ⟨⟨_, HM.out, rfl⟩, _, rfl⟩
end Go.Proofs.Ytmgidcigihpbeaa
/-
  The source made; texts drawn.
-/
namespace Go.Proofs.Ytmgidcigihpbeaa
open Go.ChangeShapes Go.WideShapes Go.ChangeAt Go.RowKit
theorem Src.stepped {w w' : World} {B : Nat} {a : Option Addr} {len cap k : Nat} (hs : Src w B a len cap k) (h : ∃ m, w' = (w.setCell ⟨B, 1, none⟩ (.int .i64 ((k : Int) + 1))).drewN m) : Src w' B a len cap (k + 1) ∧ Below B w w' := by
  obtain ⟨m, rfl⟩ := h
  exact ⟨hs.next m, below_drewN ((Below.refl B w).setCell (Nat.le_refl _) _) m⟩
theorem Src.lt {w : World} {B : Nat} {a : Option Addr} {len cap k : Nat} (hs : Src w B a len cap k) : B < w.heap.size := block_lt_of_cell hs.c0
theorem Src.alloc {w : World} {B : Nat} {a : Option Addr} {len cap k : Nat} (hs : Src w B a len cap k) (o : Obj) : Src (w.alloc o) B a len cap k :=
  hs.below ((Below.refl _ _).alloc hs.lt _)
theorem Src.drew {w : World} {B : Nat} {a : Option Addr} {len cap k : Nat} (hs : Src w B a len cap k) : Src w.drew B a len cap k := ⟨hs.c0, hs.c1, hs.f1, hs.row⟩
theorem l1Next_s (w : World) (B : Nat) (a : Option Addr) (len cap k : Nat) (n : Int) (hs : Src w B a len cap k)
    (hk : k ≤ 1000000) (hn : 1 ≤ n) (hn2 : n ≤ 1000000) (hl2 : len ≤ 1048577) :
    Calls Try.prog 57 #[.pointer (some ⟨B, 0, none⟩), .int .i64 n] w fun e w' => (∃ v : Int, 0 ≤ v ∧ v < n ∧ e = .returned (.int .i64 v)) ∧ Src w' B a len cap (k + 1) ∧ Below B w w' :=
  (l1Next_any w B a len cap k n hs hk hn hn2 hl2).mono fun _ _ ⟨h1, h2⟩ => ⟨h1, hs.stepped h2⟩
theorem l1Chance_s (w : World) (B : Nat) (a : Option Addr) (len cap k : Nat) (n : Int) (hs : Src w B a len cap k)
    (hk : k ≤ 1000000) (hn : 1 ≤ n) (hn2 : n ≤ 1000000) (hl2 : len ≤ 1048577) :
    Calls Try.prog 56 #[.pointer (some ⟨B, 0, none⟩), .int .i64 n] w fun e w' => (∃ b : Bool, e = .returned (.bool b)) ∧ Src w' B a len cap (k + 1) ∧ Below B w w' :=
  (l1Chance_any w B a len cap k n hs hk hn hn2 hl2).mono fun _ _ ⟨h1, h2⟩ => ⟨h1, hs.stepped h2⟩
/-- A pick out of a list that was just laid behind the world w0. -/
theorem l1Pick_s (w0 : World) (B : Nat) (a : Option Addr) (len cap k : Nat) (hs : Src w0 B a len cap k) (xs : List Int) (n : Nat) (hn : xs.length = n) (hpos : 0 < n) (hlen : n ≤ 1000)
    (hk : k ≤ 1000000) (hl2 : len ≤ 1048577) :
    Calls Try.prog 39 #[.pointer (some ⟨B, 0, none⟩), .slice (some ⟨w0.heap.size, 0, none⟩) n n] (w0.alloc (.cells (xs.map (Value.int .i64)).toArray 2)) fun e w' => (∃ v : Int, v ∈ xs ∧ e = .returned (.int .i64 v)) ∧ Src w' B a len cap (k + 1) ∧ Below B w0 w' := by
  have hlt := hs.lt
  refine (l1Pick_any _ B a len cap k (hs.alloc _) w0.heap.size xs (by omega) n hn ?_ hpos hlen hk hl2).mono fun _ w' ⟨h1, h2⟩ => ⟨h1, ?_⟩
  · intro i x hx
    rw [World.cell?_alloc_mark]
    simp [hx]
  · obtain ⟨s, b⟩ := (hs.alloc _).stepped h2
    exact ⟨s, ((Below.refl B w0).alloc (Nat.le_of_lt hlt) _).trans b⟩
set_option maxHeartbeats 400000 in
theorem l1Source_any (w : World) (a : Option Addr) (len cap : Nat) (hc : CodeRow w w.heap.size a len) :
    Calls Try.prog 78 #[.slice a len cap] w fun e w' => e = .returned (.pointer (some ⟨w.heap.size, 0, none⟩)) ∧ Src w' w.heap.size a len cap 0 ∧ Below w.heap.size w w' := by
  have HC : Hid (CodeRow w w.heap.size a len) := hc
  clear hc
  go_enter Try.func78, Try.ntmps78
  go_wp2
  go_ret
  have hb : Below w.heap.size w (w.alloc (.cells #[.slice a len cap, .int .i64 0] 128)) := (Below.refl _ _).alloc (Nat.le_refl _) _
  refine ⟨rfl, ⟨by simp, by simp, by simp, HC.out.below hb⟩, hb⟩
end Go.Proofs.Ytmgidcigihpbeaa
/-
  All that was there, but for one block, is as it was.
-/
namespace Go.Proofs.Ytmgidcigihpbeaa
open Go.ChangeShapes Go.WideShapes Go.ChangeAt Go.RowKit
/-- All that was there, but for block B, is as it was. -/
structure Apart (B : Nat) (w w' : World) : Prop where
  size : w.heap.size ≤ w'.heap.size
  cell : ∀ b o, b < w.heap.size → b ≠ B → w'.cell? ⟨b, o, none⟩ = w.cell? ⟨b, o, none⟩
  frozen : ∀ b o, b < w.heap.size → b ≠ B → w'.frozen? ⟨b, o, none⟩ = w.frozen? ⟨b, o, none⟩
theorem Apart.refl (B : Nat) (w : World) : Apart B w w := ⟨Nat.le_refl _, fun _ _ _ _ => rfl, fun _ _ _ _ => rfl⟩
theorem Apart.trans {B : Nat} {w w1 w2 : World} (h : Apart B w w1) (k : Apart B w1 w2) : Apart B w w2 :=
  ⟨Nat.le_trans h.size k.size, fun b o hb hn => by rw [k.cell b o (Nat.lt_of_lt_of_le hb h.size) hn, h.cell b o hb hn], fun b o hb hn => by rw [k.frozen b o (Nat.lt_of_lt_of_le hb h.size) hn, h.frozen b o hb hn]⟩
theorem Apart.below {B : Nat} {w w' : World} (h : Below w.heap.size w w') : Apart B w w' :=
  ⟨h.size, fun b o hb _ => h.cell (p := ⟨b, o, none⟩) hb, fun b o hb _ => h.frozen (p := ⟨b, o, none⟩) hb⟩
theorem Apart.alloc (B : Nat) (w : World) (o : Obj) : Apart B w (w.alloc o) := .below ((Below.refl _ _).alloc (Nat.le_refl _) _)
theorem Apart.set (B o : Nat) (w : World) (v : Value) : Apart B w (w.setCell ⟨B, o, none⟩ v) := by
  refine ⟨by simp, fun b o' _ hn => ?_, fun b o' _ hn => ?_⟩
  · rw [World.cell?_setCell_other _ _ _ _ (by intro h; have := congrArg Addr.block h; simp at this; omega)]
  · rw [World.frozen?_setCell]
end Go.Proofs.Ytmgidcigihpbeaa
/-
  Draws, and what lies apart from the source of draws.
-/
namespace Go.Proofs.Ytmgidcigihpbeaa
open Go.ChangeShapes Go.WideShapes Go.ChangeAt Go.RowKit
theorem Apart.stepped {B : Nat} {w w' : World} {v : Value} (h : ∃ m, w' = (w.setCell ⟨B, 1, none⟩ v).drewN m) : Apart B w w' := by
  obtain ⟨m, rfl⟩ := h
  refine ⟨by simp, fun b o _ hn => ?_, fun b o _ hn => ?_⟩
  · rw [World.cell?_drewN, World.cell?_setCell_other _ _ _ _ (by intro h; have := congrArg Addr.block h; simp at this; omega)]
  · rw [World.frozen?_drewN, World.frozen?_setCell]
theorem l1Next_a (w : World) (B : Nat) (a : Option Addr) (len cap k : Nat) (n : Int) (hs : Src w B a len cap k)
    (hk : k ≤ 1000000) (hn : 1 ≤ n) (hn2 : n ≤ 1000000) (hl2 : len ≤ 1048577) :
    Calls Try.prog 57 #[.pointer (some ⟨B, 0, none⟩), .int .i64 n] w fun e w' => (∃ v : Int, 0 ≤ v ∧ v < n ∧ e = .returned (.int .i64 v)) ∧ Src w' B a len cap (k + 1) ∧ Below B w w' ∧ Apart B w w' :=
  (l1Next_any w B a len cap k n hs hk hn hn2 hl2).mono fun _ _ ⟨h1, h2⟩ => ⟨h1, (hs.stepped h2).1, (hs.stepped h2).2, .stepped h2⟩
theorem l1Chance_a (w : World) (B : Nat) (a : Option Addr) (len cap k : Nat) (n : Int) (hs : Src w B a len cap k)
    (hk : k ≤ 1000000) (hn : 1 ≤ n) (hn2 : n ≤ 1000000) (hl2 : len ≤ 1048577) :
    Calls Try.prog 56 #[.pointer (some ⟨B, 0, none⟩), .int .i64 n] w fun e w' => (∃ b : Bool, e = .returned (.bool b)) ∧ Src w' B a len cap (k + 1) ∧ Below B w w' ∧ Apart B w w' :=
  (l1Chance_any w B a len cap k n hs hk hn hn2 hl2).mono fun _ _ ⟨h1, h2⟩ => ⟨h1, (hs.stepped h2).1, (hs.stepped h2).2, .stepped h2⟩
theorem l1Pick_a (w0 : World) (B : Nat) (a : Option Addr) (len cap k : Nat) (hs : Src w0 B a len cap k) (xs : List Int) (n : Nat) (hn : xs.length = n) (hpos : 0 < n) (hlen : n ≤ 1000)
    (hk : k ≤ 1000000) (hl2 : len ≤ 1048577) :
    Calls Try.prog 39 #[.pointer (some ⟨B, 0, none⟩), .slice (some ⟨w0.heap.size, 0, none⟩) n n] (w0.alloc (.cells (xs.map (Value.int .i64)).toArray 2)) fun e w' => (∃ v : Int, v ∈ xs ∧ e = .returned (.int .i64 v)) ∧ Src w' B a len cap (k + 1) ∧ Below B w0 w' ∧ Apart B w0 w' := by
  have hlt := hs.lt
  refine (l1Pick_any _ B a len cap k (hs.alloc _) w0.heap.size xs (by omega) n hn ?_ hpos hlen hk hl2).mono fun _ w' ⟨h1, h2⟩ => ⟨h1, ?_⟩
  · intro i x hx
    rw [World.cell?_alloc_mark]
    simp [hx]
  · obtain ⟨s, b⟩ := (hs.alloc _).stepped h2
    exact ⟨s, ((Below.refl B w0).alloc (Nat.le_of_lt hlt) _).trans b, (Apart.alloc B w0 _).trans (.stepped h2)⟩
end Go.Proofs.Ytmgidcigihpbeaa
/-
  Times drawn; what lies apart from the source of draws.
-/
namespace Go.Proofs.Ytmgidcigihpbeaa
open Go.ChangeShapes Go.WideShapes Go.ChangeAt Go.RowKit Go.Sort
theorem Apart.off {B b o : Nat} {w X : World} {v : Value} (h : Apart B w X) (hb : w.heap.size ≤ b) : Apart B w (X.setCell ⟨b, o, none⟩ v) := by
  refine ⟨by simpa using h.size, fun c o' hc hn => ?_, fun c o' hc hn => ?_⟩
  · rw [World.cell?_setCell_other _ _ _ _ (by intro q; have := congrArg Addr.block q; simp at this; omega)]
    exact h.cell c o' hc hn
  · rw [World.frozen?_setCell]
    exact h.frozen c o' hc hn
theorem Apart.frozen_ok {B : Nat} {w w' : World} (h : Apart B w w') : w.heap.size ≤ w'.heap.size := h.size
theorem src_off {w : World} {B b o : Nat} {a : Option Addr} {len cap k : Nat} {v : Value} (hs : Src w B a len cap k) (hb : B < b) : Src (w.setCell ⟨b, o, none⟩ v) B a len cap k :=
  hs.below ((Below.refl _ _).setCell (by show B + 1 ≤ b; omega) _)
end Go.Proofs.Ytmgidcigihpbeaa
/-
  Outcomes in memory.
-/
namespace Go.Proofs.Ytmgidcigihpbeaa
open Go.ChangeShapes Go.WideShapes Go.ChangeAt Go.RowKit
structure Mk where
  tm : Int
  gd : Bool
def MkAt (w : World) (b off : Nat) (l : List Mk) : Prop :=
  ∀ (i : Nat) r, l[i]? = some r → w.cell? ⟨b, off + i * 2, none⟩ = some (.int .i64 r.tm) ∧ w.cell? ⟨b, off + i * 2 + 1, none⟩ = some (.bool r.gd)
theorem MkAt.keep {w w' : World} {b off : Nat} {l : List Mk} (h : MkAt w b off l) (hb : Below w.heap.size w w') : MkAt w' b off l := by
  intro i r hr
  obtain ⟨p0, p1⟩ := h i r hr
  exact ⟨by rw [hb.cell (block_lt_of_cell p0)]; exact p0, by rw [hb.cell (block_lt_of_cell p1)]; exact p1⟩
/-- The slice at a holds l. -/
def MkIn (w : World) (a : Option Addr) (l : List Mk) : Prop := l = [] ∨ ∃ b off, a = some ⟨b, off, none⟩ ∧ MkAt w b off l
theorem MkIn.keep {w w' : World} {a : Option Addr} {l : List Mk} (h : MkIn w a l) (hb : Below w.heap.size w w') : MkIn w' a l := by
  rcases h with h | ⟨b, off, e, hat⟩
  · exact .inl h
  · exact .inr ⟨b, off, e, hat.keep hb⟩
theorem dropMk (l : List Mk) (k : Nat) (r : Mk) (h : l[k]? = some r) : l.drop k = r :: l.drop (k + 1) := by
  obtain ⟨hk, rfl⟩ := List.getElem?_eq_some_iff.1 h
  exact List.drop_eq_getElem_cons hk
def szMk (left : Int) (n : Nat) : Int := if left - (n : Int) < 0 then -1 else left - (n : Int)
theorem szMk_room {left : Int} {n : Nat} (h1 : left ≤ 1048576) (h : ¬ szMk left n < 0) : (n : Int) ≤ 1048576 ∧ szMk left n ≤ left ∧ 0 ≤ szMk left n := by
  unfold szMk at h ⊢
  by_cases c0 : left - (n : Int) < 0
  · rw [if_pos c0] at h; omega
  · rw [if_neg c0] at h ⊢; omega
end Go.Proofs.Ytmgidcigihpbeaa
/-
  The laws' copy of a list, and their comparing of two.
-/
namespace Go.Proofs.Ytmgidcigihpbeaa
open Go.ChangeShapes Go.WideShapes Go.ChangeAt Go.RowKit Go.Sort
/-- m cells from the head of block G on are there and may be written. -/
def RoomMk (w : World) (G m : Nat) : Prop := ∀ j, j < m → (∃ u, w.cell? ⟨G, j, none⟩ = some u) ∧ w.frozen? ⟨G, j, none⟩ = false
theorem RoomMk.keep {w w' : World} {G m : Nat} (h : RoomMk w G m) (hb : Below w.heap.size w w') : RoomMk w' G m := by
  intro j hj
  obtain ⟨⟨u, hu⟩, hf⟩ := h j hj
  exact ⟨⟨u, by rw [hb.cell (block_lt_of_cell hu)]; exact hu⟩, by rw [hb.frozen (block_lt_of_cell hu)]; exact hf⟩
theorem RoomMk.set {w : World} {G m : Nat} (h : RoomMk w G m) (a : Addr) (v : Value) : RoomMk (w.setCell a v) G m := by
  intro j hj
  obtain ⟨⟨u, hu⟩, hf⟩ := h j hj
  refine ⟨?_, by rw [World.frozen?_setCell]; exact hf⟩
  by_cases e : a = ⟨G, j, none⟩
  · exact ⟨v, by subst e; exact World.cell?_setCell_same _ _ _ hu⟩
  · exact ⟨u, by rw [World.cell?_setCell_other _ _ _ _ e]; exact hu⟩
def putMk (w : World) (G k : Nat) (r : Mk) : World := (w.setCell ⟨G, k * 2, none⟩ (.int .i64 r.tm)).setCell ⟨G, k * 2 + 1, none⟩ (.bool r.gd)
theorem offMk_ne {G i j : Nat} (h : i ≠ j) : (⟨G, i, none⟩ : Addr) ≠ ⟨G, j, none⟩ := fun e => h (congrArg Addr.off e)
theorem putMk_other (w : World) (G k : Nat) (r : Mk) (j : Nat) (h0 : k * 2 ≠ j) (h1 : k * 2 + 1 ≠ j) : (putMk w G k r).cell? ⟨G, j, none⟩ = w.cell? ⟨G, j, none⟩ := by
  unfold putMk
  rw [World.cell?_setCell_other _ _ _ _ (offMk_ne h1), World.cell?_setCell_other _ _ _ _ (offMk_ne h0)]
theorem RoomMk.put {w : World} {G m : Nat} (h : RoomMk w G m) (k : Nat) (r : Mk) : RoomMk (putMk w G k r) G m := (h.set _ _).set _ _
theorem MkAt.put {w : World} {G n : Nat} {l : List Mk} {k : Nat} {r : Mk} (h : MkAt w G 0 (l.take k)) (hr : l[k]? = some r) (hm : RoomMk w G (n * 2)) (hk : k < n) : MkAt (putMk w G k r) G 0 (l.take (k + 1)) := by
  intro i q hq
  have hi : i < k + 1 := by
    have := (List.getElem?_eq_some_iff.1 hq).1
    simp at this; omega
  rw [List.getElem?_take_of_lt hi] at hq
  simp only [Nat.zero_add]
  by_cases e : i = k
  · subst e
    rw [hr] at hq
    obtain rfl := Option.some.inj hq
    obtain ⟨⟨u0, g0⟩, _⟩ := hm (i * 2) (by omega)
    obtain ⟨⟨u1, g1⟩, _⟩ := (hm.set ⟨G, i * 2, none⟩ (.int .i64 r.tm)) (i * 2 + 1) (by omega)
    unfold putMk
    exact ⟨by rw [World.cell?_setCell_other _ _ _ _ (offMk_ne (by omega))]; exact World.cell?_setCell_same _ _ _ g0, by exact World.cell?_setCell_same _ _ _ g1⟩
  · have hq2 : (l.take k)[i]? = some q := by rw [List.getElem?_take_of_lt (by omega)]; exact hq
    obtain ⟨a0, a1⟩ := h i q hq2
    simp only [Nat.zero_add] at a0 a1
    exact ⟨by rw [putMk_other _ _ _ _ _ (by omega) (by omega)]; exact a0, by rw [putMk_other _ _ _ _ _ (by omega) (by omega)]; exact a1⟩
theorem infoMk : (Try.prog.info? 112).map (fun i => (i.zero, i.size, i.bytes)) = some (some (.agg #[.int .i64 0, .bool false]), 2, 16) := by kernel_rfl
end Go.Proofs.Ytmgidcigihpbeaa
/-
  Head lines in memory; the laws' own helpers over them.
-/
namespace Go.Proofs.Ytmgidcigihpbeaa
open Go.ChangeShapes Go.WideShapes Go.ChangeAt Go.RowKit
/-- A head line: its name and its value. -/
structure Hdr where
  name : ByteArray
  value : ByteArray
/-- The lines l lie in block b from off on, two cells each. -/
def HeadsAt (w : World) (b off : Nat) (l : List Hdr) : Prop :=
  ∀ (i : Nat) r, l[i]? = some r → w.cell? ⟨b, off + i * 2, none⟩ = some (.string r.name) ∧ w.cell? ⟨b, off + i * 2 + 1, none⟩ = some (.string r.value)
def hdrV (r : Hdr) : Value := .agg #[.string r.name, .string r.value]
def szH (left : Int) (r : Hdr) : Int := if left - (r.name.size : Int) < 0 then -1 else if left - (r.name.size : Int) - (r.value.size : Int) < 0 then -1 else left - (r.name.size : Int) - (r.value.size : Int)
/-- How much room is left behind the items; -1: none. -/
def szHs (left : Int) : List Hdr → Int
  | [] => left
  | r :: l => if szH left r < 0 then -1 else szHs (szH left r) l
def szHL (left : Int) (l : List Hdr) : Int := if left - (l.length : Int) < 0 then -1 else szHs (left - (l.length : Int)) l
def SmallHdrs (l : List Hdr) : Prop := ∀ (i : Nat) r, l[i]? = some r → r.name.size ≤ maxLen ∧ r.value.size ≤ maxLen
theorem HeadsAt.keep {w w' : World} {b off : Nat} {l : List Hdr} (h : HeadsAt w b off l) (hb : Below w.heap.size w w') : HeadsAt w' b off l := by
  intro i r hr
  obtain ⟨a1, a3⟩ := h i r hr
  exact ⟨by rw [hb.cell (block_lt_of_cell a1)]; exact a1, by rw [hb.cell (block_lt_of_cell a3)]; exact a3⟩
theorem szH_le (left : Int) (r : Hdr) : szH left r ≤ left ∨ szH left r = -1 := by
  unfold szH
  split
  · exact .inr rfl
  · split
    · exact .inr rfl
    · left; omega
theorem drop_hdr (l : List Hdr) (k : Nat) (r : Hdr) (h : l[k]? = some r) : l.drop k = r :: l.drop (k + 1) := by
  obtain ⟨hk, rfl⟩ := List.getElem?_eq_some_iff.1 h
  exact List.drop_eq_getElem_cons hk
end Go.Proofs.Ytmgidcigihpbeaa
/-
  The laws' copy of a list of items, and their comparing of two.
-/
namespace Go.Proofs.Ytmgidcigihpbeaa
open Go.ChangeShapes Go.WideShapes Go.ChangeAt Go.RowKit Go.Sort
/-- m cells from the head of block G on are there and may be written. -/
def HRoom (w : World) (G m : Nat) : Prop := ∀ j, j < m → (∃ u, w.cell? ⟨G, j, none⟩ = some u) ∧ w.frozen? ⟨G, j, none⟩ = false
theorem HRoom.keep {w w' : World} {G m : Nat} (h : HRoom w G m) (hb : Below w.heap.size w w') : HRoom w' G m := by
  intro j hj
  obtain ⟨⟨u, hu⟩, hf⟩ := h j hj
  exact ⟨⟨u, by rw [hb.cell (block_lt_of_cell hu)]; exact hu⟩, by rw [hb.frozen (block_lt_of_cell hu)]; exact hf⟩
theorem HRoom.set {w : World} {G m : Nat} (h : HRoom w G m) (a : Addr) (v : Value) : HRoom (w.setCell a v) G m := by
  intro j hj
  obtain ⟨⟨u, hu⟩, hf⟩ := h j hj
  refine ⟨?_, by rw [World.frozen?_setCell]; exact hf⟩
  by_cases e : a = ⟨G, j, none⟩
  · exact ⟨v, by subst e; exact World.cell?_setCell_same _ _ _ hu⟩
  · exact ⟨u, by rw [World.cell?_setCell_other _ _ _ _ e]; exact hu⟩
def put2 (w : World) (G k : Nat) (r : Hdr) : World := (w.setCell ⟨G, k * 2, none⟩ (.string r.name)).setCell ⟨G, k * 2 + 1, none⟩ (.string r.value)
theorem hoff_ne {G i j : Nat} (h : i ≠ j) : (⟨G, i, none⟩ : Addr) ≠ ⟨G, j, none⟩ := fun e => h (congrArg Addr.off e)
theorem put2_other (w : World) (G k : Nat) (r : Hdr) (j : Nat) (h0 : k * 2 ≠ j) (h1 : k * 2 + 1 ≠ j) : (put2 w G k r).cell? ⟨G, j, none⟩ = w.cell? ⟨G, j, none⟩ := by
  unfold put2
  rw [World.cell?_setCell_other _ _ _ _ (hoff_ne h1), World.cell?_setCell_other _ _ _ _ (hoff_ne h0)]
theorem HRoom.put {w : World} {G m : Nat} (h : HRoom w G m) (k : Nat) (r : Hdr) : HRoom (put2 w G k r) G m := (h.set _ _).set _ _
theorem HeadsAt.put {w : World} {G n : Nat} {l : List Hdr} {k : Nat} {r : Hdr} (h : HeadsAt w G 0 (l.take k)) (hr : l[k]? = some r) (hm : HRoom w G (n * 2)) (hk : k < n) : HeadsAt (put2 w G k r) G 0 (l.take (k + 1)) := by
  intro i q hq
  have hi : i < k + 1 := by
    have := (List.getElem?_eq_some_iff.1 hq).1
    simp at this; omega
  rw [List.getElem?_take_of_lt hi] at hq
  simp only [Nat.zero_add]
  by_cases e : i = k
  · subst e
    rw [hr] at hq
    obtain rfl := Option.some.inj hq
    obtain ⟨⟨u0, g0⟩, _⟩ := hm (i * 2) (by omega)
    obtain ⟨⟨u1, g1⟩, _⟩ := (hm.set ⟨G, i * 2, none⟩ (.string r.name)) (i * 2 + 1) (by omega)
    unfold put2
    refine ⟨?_, World.cell?_setCell_same _ _ _ g1⟩
    rw [World.cell?_setCell_other _ _ _ _ (hoff_ne (by omega))]
    exact World.cell?_setCell_same _ _ _ g0
  · have hq2 : (l.take k)[i]? = some q := by rw [List.getElem?_take_of_lt (by omega)]; exact hq
    obtain ⟨a1, a3⟩ := h i q hq2
    simp only [Nat.zero_add] at a1 a3
    exact ⟨by rw [put2_other _ _ _ _ _ (by omega) (by omega)]; exact a1, by rw [put2_other _ _ _ _ _ (by omega) (by omega)]; exact a3⟩
end Go.Proofs.Ytmgidcigihpbeaa
/-
  Appending, for whatever element: what is appended may be nil.
-/
namespace Go.Proofs.Ytmgidcigihpbeaa
open Go.ChangeShapes Go.WideShapes Go.ChangeAt Go.RowKit Go.Sort
theorem row_ge {w : World} {base : Nat} {e : TypeId} {size : Nat} {v : Value} {n : Nat} {xs : List Value} (h : w.ownsRow base e size v n xs) (q : Nat) (hq : v.ownBlock = some q) : base ≤ q := (World.ownsRow.lt h q hq).1
theorem row_form {w : World} {base : Nat} {e : TypeId} {size : Nat} {v : Value} {n : Nat} {xs : List Value} (h : w.ownsRow base e size v n xs) : ∃ va vc, v = .slice va n vc ∧ n ≤ vc := by
  obtain ⟨_, h1 | ⟨g, c2, cur, e2, _, _, hc2, _⟩⟩ := h
  · obtain ⟨rfl, rfl⟩ := h1
    exact ⟨none, 0, rfl, Nat.le_refl _⟩
  · exact ⟨_, c2, e2, hc2⟩
theorem row_below {w w' : World} {base : Nat} {e : TypeId} {size : Nat} {v : Value} {n : Nat} {xs : List Value} (h : w.ownsRow base e size v n xs) (hb : Below w.heap.size w w') : w'.ownsRow base e size v n xs := by
  obtain ⟨h1, h2⟩ := h
  refine ⟨h1, ?_⟩
  rcases h2 with h2 | ⟨g, c, cur, e, hg, hh, hrest⟩
  · exact .inl h2
  · exact .inr ⟨g, c, cur, e, hg, by rw [hb.block g (Array.getElem?_eq_some_iff.1 hh).1]; exact hh, hrest⟩
theorem row_lower {w : World} {b0 base : Nat} {e : TypeId} {size : Nat} {v : Value} {n : Nat} {xs : List Value} (h : w.ownsRow base e size v n xs) (hb : b0 ≤ base) : w.ownsRow b0 e size v n xs := by
  obtain ⟨h1, h2⟩ := h
  refine ⟨h1, ?_⟩
  rcases h2 with h2 | ⟨g, c, cur, e, hg, hrest⟩
  · exact .inl h2
  · exact .inr ⟨g, c, cur, e, by omega, hrest⟩
theorem row_zero {P : Program} (w : World) (t ty e : TypeId) (i : TypeInfo) (ht : P.underlying t = some (.slice e)) (hi : P.info? e = some i) (base : Option Addr) (n k : Nat) (hle : n ≤ k) (pb : Option Addr) (c : Nat) :
    (Builtin.append_ #[t, t] ty #[.slice base n k, .slice pb 0 c]).run P w = .ok (.slice base n k) w := by
  cases base <;> cases pb <;> simp [Builtin.append_, run_underlying ht, sizeOf, typeInfo, hi, Builtin.lenOf, Builtin.firstCells, hle, storeCells, loadCells, loadCellsFrom]
section
variable {P : Program}
theorem wp_append_in {o : Oper} {a : Act} {K : Act → World → Prop} {Q : Exit → Act → World → Prop} (w : World) (s x : Operand) (t e : TypeId)
    (ho : o.op = .call { callee := .builtin .append, args := #[s, x], argTypes := #[t, t] })
    (i : TypeInfo) (z : Value) (size bytes : Nat) (ht : P.underlying t = some (.slice e)) (hi : P.info? e = some i) (hz : i.zero = some z) (hsize : i.size = size) (hby : i.bytes = bytes) (hzs : z.cells.size = size) (hsz : 0 < size)
    (base : Nat) (v : Value) (n : Nat) (xs : List Value) (hs : a.eval s = v) (hown : w.ownsRow base e size v n xs)
    (pa : Option Addr) (cap m : Nat) (news : List Value) (hx : a.eval x = .slice pa m cap) (hl : news.length = m * size) (hnews : m = 0 ∨ ∃ ad, pa = some ad ∧ ∀ j u, news[j]? = some u → w.cell? (ad.add j) = some u) (h1 : ∀ u ∈ news, u.oneCell' = true)
    (h63 : n + m ≤ maxLen) (hbytes : (n + m) * bytes ≤ 140737488355328) (hbase : base ≤ w.heap.size)
    (h : ∀ v' w', w'.ownsRow base e size v' (n + m) (xs ++ news) → Below base w w' → (∀ b o, b < w.heap.size → v.ownBlock ≠ some b → w'.cell? ⟨b, o, none⟩ = w.cell? ⟨b, o, none⟩ ∧ w'.frozen? ⟨b, o, none⟩ = w.frozen? ⟨b, o, none⟩) → K (a.put o.dst v') w') :
    Oper.wp P o a w K Q := by
  by_cases h0 : m = 0
  · subst h0
    obtain ⟨va, vc, rfl, hle⟩ := row_form hown
    have en : news = [] := List.eq_nil_of_length_eq_zero (by rw [hl, Nat.zero_mul])
    subst en
    unfold Oper.wp execOp
    simp only [ho, resolve, invoke, builtin, Sem.run_bind, Sem.run_pure, Result.andThen_ok, List.map_toArray, List.map_cons, List.map_nil, hs, hx]
    rw [row_zero w t _ e i ht hi va n vc hle pa cap]
    exact h _ w (by simpa using hown) (Below.refl _ _) (fun _ _ _ _ => ⟨rfl, rfl⟩)
  · rcases hnews with hnews | ⟨ad, rfl, hnews⟩
    · exact absurd hnews h0
    · refine wp_append_lies w s x t ho base e i z size bytes ht hi hz hsize hby hzs hsz v n xs hs hown ad m cap news hx hl hnews h1 (by omega) h63 hbytes hbase _ rfl ?_
      intro g c w' h1 h2 h3 h4
      exact h _ w' h1 ((Below.refl base w).grown h2 hbase (fun q hq => row_ge hown q hq)) (fun b o hb hne => ⟨h2.cell_far ⟨b, o, none⟩ hb hne.symm, h2.frozen_far ⟨b, o, none⟩ hb hne.symm⟩)
theorem step_append_in {ops : Array Oper} {o : Oper} {a : Act} {K : Act → World → Prop} {Q : Exit → Act → World → Prop} {E : Prop} (w : World) (hgd : o.guard = none) (s x : Operand) (t e : TypeId)
    (ho : o.op = .call { callee := .builtin .append, args := #[s, x], argTypes := #[t, t] })
    (i : TypeInfo) (z : Value) (size bytes : Nat) (ht : P.underlying t = some (.slice e)) (hi : P.info? e = some i) (hz : i.zero = some z) (hsize : i.size = size) (hby : i.bytes = bytes) (hzs : z.cells.size = size) (hsz : 0 < size)
    (base : Nat) (v : Value) (n : Nat) (xs : List Value) (hs : a.eval s = v) (hown : w.ownsRow base e size v n xs)
    (pa : Option Addr) (cap m : Nat) (news : List Value) (hx : a.eval x = .slice pa m cap) (hl : news.length = m * size) (hnews : m = 0 ∨ ∃ ad, pa = some ad ∧ ∀ j u, news[j]? = some u → w.cell? (ad.add j) = some u) (h1 : ∀ u ∈ news, u.oneCell' = true)
    (h63 : n + m ≤ maxLen) (hbytes : (n + m) * bytes ≤ 140737488355328) (hbase : base ≤ w.heap.size)
    (h : ∀ v' w', w'.ownsRow base e size v' (n + m) (xs ++ news) → Below base w w' → (∀ b o, b < w.heap.size → v.ownBlock ≠ some b → w'.cell? ⟨b, o, none⟩ = w.cell? ⟨b, o, none⟩ ∧ w'.frozen? ⟨b, o, none⟩ = w.frozen? ⟨b, o, none⟩) → K (a.put o.dst v') w') :
    if Region.wanted o (yielded ops a.tmps) = true then Oper.wp P o a w K Q else E := by
  have hw : Region.wanted o (yielded ops a.tmps) = true := by simp [Region.wanted, hgd]
  rw [if_pos hw]
  exact wp_append_in w s x t e ho i z size bytes ht hi hz hsize hby hzs hsz base v n xs hs hown pa cap m news hx hl hnews h1 h63 hbytes hbase h
end
end Go.Proofs.Ytmgidcigihpbeaa
/-
  Four cells that may be written.
-/
namespace Go.Proofs.Ytmgidcigihpbeaa
open Go.ChangeShapes Go.WideShapes Go.ChangeAt Go.RowKit
structure S4 (w : World) (b : Nat) (v0 v1 v2 v3 : Value) : Prop where
  c0 : w.cell? ⟨b, 0, none⟩ = some v0
  c1 : w.cell? ⟨b, 1, none⟩ = some v1
  c2 : w.cell? ⟨b, 2, none⟩ = some v2
  c3 : w.cell? ⟨b, 3, none⟩ = some v3
  fr : ∀ o, w.frozen? ⟨b, o, none⟩ = false
  lt : b < w.heap.size
section
variable {w w' : World} {b : Nat} {v0 v1 v2 v3 : Value}
theorem S4.keep (k : S4 w b v0 v1 v2 v3) (hb : Below w.heap.size w w') : S4 w' b v0 v1 v2 v3 :=
  ⟨by rw [hb.cell (p := ⟨b, 0, none⟩) k.lt]; exact k.c0, by rw [hb.cell (p := ⟨b, 1, none⟩) k.lt]; exact k.c1, by rw [hb.cell (p := ⟨b, 2, none⟩) k.lt]; exact k.c2, by rw [hb.cell (p := ⟨b, 3, none⟩) k.lt]; exact k.c3, fun o => by rw [hb.frozen (p := ⟨b, o, none⟩) k.lt]; exact k.fr o, Nat.lt_of_lt_of_le k.lt hb.size⟩
theorem S4.new (w : World) (v0 v1 v2 v3 : Value) (t : TypeId) : S4 (w.alloc (.cells #[v0, v1, v2, v3] t)) w.heap.size v0 v1 v2 v3 := ⟨by simp, by simp, by simp, by simp, fun o => by simp, by simp⟩
theorem S4.off (k : S4 w b v0 v1 v2 v3) {B i : Nat} {x : Value} (h : B ≠ b) : S4 (w.setCell ⟨B, i, none⟩ x) b v0 v1 v2 v3 := by
  have ne : ∀ o : Nat, (⟨B, i, none⟩ : Addr) ≠ ⟨b, o, none⟩ := fun o q => h (congrArg Addr.block q)
  exact ⟨by rw [World.cell?_setCell_other _ _ _ _ (ne _)]; exact k.c0, by rw [World.cell?_setCell_other _ _ _ _ (ne _)]; exact k.c1, by rw [World.cell?_setCell_other _ _ _ _ (ne _)]; exact k.c2, by rw [World.cell?_setCell_other _ _ _ _ (ne _)]; exact k.c3, fun o => by rw [World.frozen?_setCell]; exact k.fr o, by simpa using k.lt⟩
theorem S4.set0 (k : S4 w b v0 v1 v2 v3) (x : Value) : S4 (w.setCell ⟨b, 0, none⟩ x) b x v1 v2 v3 :=
  ⟨World.cell?_setCell_same _ _ _ k.c0, by rw [World.cell?_setCell_other _ _ _ _ (by intro q; have := congrArg Addr.off q; simp at this)]; exact k.c1, by rw [World.cell?_setCell_other _ _ _ _ (by intro q; have := congrArg Addr.off q; simp at this)]; exact k.c2, by rw [World.cell?_setCell_other _ _ _ _ (by intro q; have := congrArg Addr.off q; simp at this)]; exact k.c3, fun o => by rw [World.frozen?_setCell]; exact k.fr o, by simpa using k.lt⟩
theorem S4.set1 (k : S4 w b v0 v1 v2 v3) (x : Value) : S4 (w.setCell ⟨b, 1, none⟩ x) b v0 x v2 v3 :=
  ⟨by rw [World.cell?_setCell_other _ _ _ _ (by intro q; have := congrArg Addr.off q; simp at this)]; exact k.c0, World.cell?_setCell_same _ _ _ k.c1, by rw [World.cell?_setCell_other _ _ _ _ (by intro q; have := congrArg Addr.off q; simp at this)]; exact k.c2, by rw [World.cell?_setCell_other _ _ _ _ (by intro q; have := congrArg Addr.off q; simp at this)]; exact k.c3, fun o => by rw [World.frozen?_setCell]; exact k.fr o, by simpa using k.lt⟩
theorem S4.set2 (k : S4 w b v0 v1 v2 v3) (x : Value) : S4 (w.setCell ⟨b, 2, none⟩ x) b v0 v1 x v3 :=
  ⟨by rw [World.cell?_setCell_other _ _ _ _ (by intro q; have := congrArg Addr.off q; simp at this)]; exact k.c0, by rw [World.cell?_setCell_other _ _ _ _ (by intro q; have := congrArg Addr.off q; simp at this)]; exact k.c1, World.cell?_setCell_same _ _ _ k.c2, by rw [World.cell?_setCell_other _ _ _ _ (by intro q; have := congrArg Addr.off q; simp at this)]; exact k.c3, fun o => by rw [World.frozen?_setCell]; exact k.fr o, by simpa using k.lt⟩
theorem S4.set3 (k : S4 w b v0 v1 v2 v3) (x : Value) : S4 (w.setCell ⟨b, 3, none⟩ x) b v0 v1 v2 x :=
  ⟨by rw [World.cell?_setCell_other _ _ _ _ (by intro q; have := congrArg Addr.off q; simp at this)]; exact k.c0, by rw [World.cell?_setCell_other _ _ _ _ (by intro q; have := congrArg Addr.off q; simp at this)]; exact k.c1, by rw [World.cell?_setCell_other _ _ _ _ (by intro q; have := congrArg Addr.off q; simp at this)]; exact k.c2, World.cell?_setCell_same _ _ _ k.c3, fun o => by rw [World.frozen?_setCell]; exact k.fr o, by simpa using k.lt⟩
end
end Go.Proofs.Ytmgidcigihpbeaa
/-
  Five cells that may be written.
-/
namespace Go.Proofs.Ytmgidcigihpbeaa
open Go.ChangeShapes Go.WideShapes Go.ChangeAt Go.RowKit
structure S5 (w : World) (b : Nat) (v0 v1 v2 v3 v4 : Value) : Prop where
  c0 : w.cell? ⟨b, 0, none⟩ = some v0
  c1 : w.cell? ⟨b, 1, none⟩ = some v1
  c2 : w.cell? ⟨b, 2, none⟩ = some v2
  c3 : w.cell? ⟨b, 3, none⟩ = some v3
  c4 : w.cell? ⟨b, 4, none⟩ = some v4
  fr : ∀ o, w.frozen? ⟨b, o, none⟩ = false
  lt : b < w.heap.size
section
variable {w w' : World} {b : Nat} {v0 v1 v2 v3 v4 : Value}
theorem S5.keep (k : S5 w b v0 v1 v2 v3 v4) (hb : Below w.heap.size w w') : S5 w' b v0 v1 v2 v3 v4 :=
  ⟨by rw [hb.cell (p := ⟨b, 0, none⟩) k.lt]; exact k.c0, by rw [hb.cell (p := ⟨b, 1, none⟩) k.lt]; exact k.c1, by rw [hb.cell (p := ⟨b, 2, none⟩) k.lt]; exact k.c2, by rw [hb.cell (p := ⟨b, 3, none⟩) k.lt]; exact k.c3, by rw [hb.cell (p := ⟨b, 4, none⟩) k.lt]; exact k.c4, fun o => by rw [hb.frozen (p := ⟨b, o, none⟩) k.lt]; exact k.fr o, Nat.lt_of_lt_of_le k.lt hb.size⟩
theorem S5.new (w : World) (v0 v1 v2 v3 v4 : Value) (t : TypeId) : S5 (w.alloc (.cells #[v0, v1, v2, v3, v4] t)) w.heap.size v0 v1 v2 v3 v4 := ⟨by simp, by simp, by simp, by simp, by simp, fun o => by simp, by simp⟩
theorem S5.off (k : S5 w b v0 v1 v2 v3 v4) {B i : Nat} {x : Value} (h : B ≠ b) : S5 (w.setCell ⟨B, i, none⟩ x) b v0 v1 v2 v3 v4 := by
  have ne : ∀ o : Nat, (⟨B, i, none⟩ : Addr) ≠ ⟨b, o, none⟩ := fun o q => h (congrArg Addr.block q)
  exact ⟨by rw [World.cell?_setCell_other _ _ _ _ (ne _)]; exact k.c0, by rw [World.cell?_setCell_other _ _ _ _ (ne _)]; exact k.c1, by rw [World.cell?_setCell_other _ _ _ _ (ne _)]; exact k.c2, by rw [World.cell?_setCell_other _ _ _ _ (ne _)]; exact k.c3, by rw [World.cell?_setCell_other _ _ _ _ (ne _)]; exact k.c4, fun o => by rw [World.frozen?_setCell]; exact k.fr o, by simpa using k.lt⟩
theorem S5.set0 (k : S5 w b v0 v1 v2 v3 v4) (x : Value) : S5 (w.setCell ⟨b, 0, none⟩ x) b x v1 v2 v3 v4 :=
  ⟨World.cell?_setCell_same _ _ _ k.c0, by rw [World.cell?_setCell_other _ _ _ _ (by intro q; have := congrArg Addr.off q; simp at this)]; exact k.c1, by rw [World.cell?_setCell_other _ _ _ _ (by intro q; have := congrArg Addr.off q; simp at this)]; exact k.c2, by rw [World.cell?_setCell_other _ _ _ _ (by intro q; have := congrArg Addr.off q; simp at this)]; exact k.c3, by rw [World.cell?_setCell_other _ _ _ _ (by intro q; have := congrArg Addr.off q; simp at this)]; exact k.c4, fun o => by rw [World.frozen?_setCell]; exact k.fr o, by simpa using k.lt⟩
theorem S5.set1 (k : S5 w b v0 v1 v2 v3 v4) (x : Value) : S5 (w.setCell ⟨b, 1, none⟩ x) b v0 x v2 v3 v4 :=
  ⟨by rw [World.cell?_setCell_other _ _ _ _ (by intro q; have := congrArg Addr.off q; simp at this)]; exact k.c0, World.cell?_setCell_same _ _ _ k.c1, by rw [World.cell?_setCell_other _ _ _ _ (by intro q; have := congrArg Addr.off q; simp at this)]; exact k.c2, by rw [World.cell?_setCell_other _ _ _ _ (by intro q; have := congrArg Addr.off q; simp at this)]; exact k.c3, by rw [World.cell?_setCell_other _ _ _ _ (by intro q; have := congrArg Addr.off q; simp at this)]; exact k.c4, fun o => by rw [World.frozen?_setCell]; exact k.fr o, by simpa using k.lt⟩
theorem S5.set2 (k : S5 w b v0 v1 v2 v3 v4) (x : Value) : S5 (w.setCell ⟨b, 2, none⟩ x) b v0 v1 x v3 v4 :=
  ⟨by rw [World.cell?_setCell_other _ _ _ _ (by intro q; have := congrArg Addr.off q; simp at this)]; exact k.c0, by rw [World.cell?_setCell_other _ _ _ _ (by intro q; have := congrArg Addr.off q; simp at this)]; exact k.c1, World.cell?_setCell_same _ _ _ k.c2, by rw [World.cell?_setCell_other _ _ _ _ (by intro q; have := congrArg Addr.off q; simp at this)]; exact k.c3, by rw [World.cell?_setCell_other _ _ _ _ (by intro q; have := congrArg Addr.off q; simp at this)]; exact k.c4, fun o => by rw [World.frozen?_setCell]; exact k.fr o, by simpa using k.lt⟩
theorem S5.set3 (k : S5 w b v0 v1 v2 v3 v4) (x : Value) : S5 (w.setCell ⟨b, 3, none⟩ x) b v0 v1 v2 x v4 :=
  ⟨by rw [World.cell?_setCell_other _ _ _ _ (by intro q; have := congrArg Addr.off q; simp at this)]; exact k.c0, by rw [World.cell?_setCell_other _ _ _ _ (by intro q; have := congrArg Addr.off q; simp at this)]; exact k.c1, by rw [World.cell?_setCell_other _ _ _ _ (by intro q; have := congrArg Addr.off q; simp at this)]; exact k.c2, World.cell?_setCell_same _ _ _ k.c3, by rw [World.cell?_setCell_other _ _ _ _ (by intro q; have := congrArg Addr.off q; simp at this)]; exact k.c4, fun o => by rw [World.frozen?_setCell]; exact k.fr o, by simpa using k.lt⟩
theorem S5.set4 (k : S5 w b v0 v1 v2 v3 v4) (x : Value) : S5 (w.setCell ⟨b, 4, none⟩ x) b v0 v1 v2 v3 x :=
  ⟨by rw [World.cell?_setCell_other _ _ _ _ (by intro q; have := congrArg Addr.off q; simp at this)]; exact k.c0, by rw [World.cell?_setCell_other _ _ _ _ (by intro q; have := congrArg Addr.off q; simp at this)]; exact k.c1, by rw [World.cell?_setCell_other _ _ _ _ (by intro q; have := congrArg Addr.off q; simp at this)]; exact k.c2, by rw [World.cell?_setCell_other _ _ _ _ (by intro q; have := congrArg Addr.off q; simp at this)]; exact k.c3, World.cell?_setCell_same _ _ _ k.c4, fun o => by rw [World.frozen?_setCell]; exact k.fr o, by simpa using k.lt⟩
end
end Go.Proofs.Ytmgidcigihpbeaa
/-
  A world in which one block alone has changed.
-/
namespace Go.Proofs.Ytmgidcigihpbeaa
open Go.ChangeShapes Go.WideShapes Go.ChangeAt Go.RowKit Go.Sort
structure OneB (g : Nat) (w w' : World) : Prop where
  os : w'.os = w.os
  tape : w'.tape = w.tape
  output : w'.output = w.output
  size : w'.heap.size = w.heap.size
  block : ∀ k, k ≠ g → w'.heap[k]? = w.heap[k]?
theorem OneB.refl (g : Nat) (w : World) : OneB g w w := ⟨rfl, rfl, rfl, rfl, fun _ _ => rfl⟩
theorem OneB.trans {g : Nat} {w w1 w2 : World} (h : OneB g w w1) (k : OneB g w1 w2) : OneB g w w2 := ⟨k.os.trans h.os, k.tape.trans h.tape, k.output.trans h.output, k.size.trans h.size, fun i hi => (k.block i hi).trans (h.block i hi)⟩
theorem OneB.set (g : Nat) (w : World) (o : Nat) (u : Value) : OneB g w (w.setCell ⟨g, o, none⟩ u) := ⟨rfl, rfl, rfl, by simp [World.setCell], fun k hk => Below.heap_setCell _ _ _ _ hk⟩
theorem OneB.below {g B : Nat} {w w' : World} (h : OneB g w w') (hB : B ≤ g) : Below B w w' := ⟨h.os, h.tape, h.output, Nat.le_of_eq h.size.symm, fun k hk => h.block k (by omega)⟩
theorem OneB.cell {g : Nat} {w w' : World} (h : OneB g w w') {b : Nat} (o : Nat) (hb : b ≠ g) : w'.cell? ⟨b, o, none⟩ = w.cell? ⟨b, o, none⟩ := by
  exact World.cell?_of_block (w := w) (h.block b hb)
theorem OneB.frozen {g : Nat} {w w' : World} (h : OneB g w w') {b : Nat} (o : Nat) (hb : b ≠ g) : w'.frozen? ⟨b, o, none⟩ = w.frozen? ⟨b, o, none⟩ := by
  exact World.frozen?_of_block (w := w) (h.block b hb)
theorem S4.one {g : Nat} {w w' : World} {b : Nat} {v0 v1 v2 v3 : Value} (k : S4 w b v0 v1 v2 v3) (h : OneB g w w') (hb : b ≠ g) : S4 w' b v0 v1 v2 v3 :=
  ⟨by rw [h.cell _ hb]; exact k.c0, by rw [h.cell _ hb]; exact k.c1, by rw [h.cell _ hb]; exact k.c2, by rw [h.cell _ hb]; exact k.c3, fun o => by rw [h.frozen _ hb]; exact k.fr o, by rw [h.size]; exact k.lt⟩
theorem S5.one {g : Nat} {w w' : World} {b : Nat} {v0 v1 v2 v3 v4 : Value} (k : S5 w b v0 v1 v2 v3 v4) (h : OneB g w w') (hb : b ≠ g) : S5 w' b v0 v1 v2 v3 v4 :=
  ⟨by rw [h.cell _ hb]; exact k.c0, by rw [h.cell _ hb]; exact k.c1, by rw [h.cell _ hb]; exact k.c2, by rw [h.cell _ hb]; exact k.c3, by rw [h.cell _ hb]; exact k.c4, fun o => by rw [h.frozen _ hb]; exact k.fr o, by rw [h.size]; exact k.lt⟩
end Go.Proofs.Ytmgidcigihpbeaa
/-
  A list in a row of one's own: what is appended; new lists.
-/
namespace Go.Proofs.Ytmgidcigihpbeaa
open Go.ChangeShapes Go.WideShapes Go.ChangeAt Go.RowKit Go.Sort
def cellMk (r : Mk) : List Value := [.int .i64 r.tm, .bool r.gd]
def wMk (l : List Mk) : List Value := l.flatMap cellMk
theorem wMk_len (l : List Mk) : (wMk l).length = l.length * 2 := by
  induction l with
  | nil => rfl
  | cons r l ih => simp only [wMk, List.flatMap_cons, List.length_append, List.length_cons] at ih ⊢; rw [ih]; simp [cellMk]; omega
theorem wMk_at (l : List Mk) : ∀ (i : Nat) r, l[i]? = some r → (wMk l)[i * 2]? = some (.int .i64 r.tm) ∧ (wMk l)[i * 2 + 1]? = some (.bool r.gd) := by
  induction l with
  | nil => intro i r hr; simp at hr
  | cons x l ih =>
    intro i r hr
    have e : wMk (x :: l) = .int .i64 x.tm :: .bool x.gd :: wMk l := by simp [wMk, cellMk]
    rw [e]
    cases i with
    | zero => simp at hr; subst hr; simp
    | succ i =>
      have := ih i r (by simpa using hr)
      rw [show (i + 1) * 2 = i * 2 + 2 from by omega]
      simpa using this
theorem wMk_one (l : List Mk) : ∀ u ∈ wMk l, u.oneCell' = true := by
  intro u hu
  simp only [wMk, List.mem_flatMap] at hu
  obtain ⟨r, _, hr⟩ := hu
  simp only [cellMk, List.mem_cons, List.not_mem_nil, or_false] at hr
  rcases hr with rfl | rfl <;> rfl
theorem addMk (b off j : Nat) : (⟨b, off, none⟩ : Addr).add j = ⟨b, off + j, none⟩ := by unfold Addr.add; split <;> simp_all
theorem wMk_in {w : World} {a : Option Addr} {l : List Mk} (h : MkIn w a l) : l.length = 0 ∨ ∃ ad, a = some ad ∧ ∀ j u, (wMk l)[j]? = some u → w.cell? (ad.add j) = some u := by
  rcases h with rfl | ⟨b, off, rfl, h⟩
  · exact .inl rfl
  · refine .inr ⟨_, rfl, fun j u hj => ?_⟩
    rw [addMk]
    have hlt : j < (wMk l).length := (List.getElem?_eq_some_iff.1 hj).1
    rw [wMk_len] at hlt
    obtain ⟨r, hr⟩ : ∃ r, l[j / 2]? = some r := ⟨l[j / 2]'(by omega), List.getElem?_eq_getElem _⟩
    obtain ⟨e0, e1⟩ := wMk_at l (j / 2) r hr
    obtain ⟨c0, c1⟩ := h (j / 2) r hr
    obtain hm | hm : j % 2 = 0 ∨ j % 2 = 1 := by omega
    · have ej : j / 2 * 2 = j := by omega
      rw [ej] at e0 c0
      rw [e0] at hj
      rw [← hj]; exact c0
    · have ej : j / 2 * 2 + 1 = j := by omega
      rw [ej] at e1
      rw [Nat.add_assoc, ej] at c1
      rw [e1] at hj
      rw [← hj]; exact c1
/-- v, nil or not, holds l in a row of the call's own, from block base on. -/
def OwnMk (w : World) (base : Nat) (v : Value) (l : List Mk) : Prop := w.ownsRow base 112 2 v l.length (wMk l)
theorem OwnMk.none0 (w : World) (base : Nat) : OwnMk w base (.slice none 0 0) [] := World.ownsRow_nil _ _ _ _
theorem OwnMk.made0 (w : World) (base : Nat) (hb : base ≤ w.heap.size) : OwnMk (w.alloc (.cells #[] 112)) base (.slice (some ⟨w.heap.size, 0, none⟩) 0 0) [] := World.ownsRow_made w #[] 0 hb (by unfold maxLen; omega) rfl
theorem OwnMk.below {w w' : World} {base : Nat} {v : Value} {l : List Mk} (h : OwnMk w base v l) (hb : Below w.heap.size w w') : OwnMk w' base v l := row_below h hb
theorem OwnMk.lower {w : World} {b0 base : Nat} {v : Value} {l : List Mk} (h : OwnMk w base v l) (hb : b0 ≤ base) : OwnMk w b0 v l := row_lower h hb
theorem OwnMk.in {w : World} {base : Nat} {v : Value} {l : List Mk} (h : OwnMk w base v l) : ∃ a c, v = .slice a l.length c ∧ l.length ≤ c ∧ MkIn w a l := by
  have h0 := h
  obtain ⟨_, h1 | ⟨g, c, cur, rfl, _, _, hc, _⟩⟩ := h
  · have e : l = [] := List.eq_nil_of_length_eq_zero h1.2
    subst e
    exact ⟨none, 0, h1.1, Nat.le_refl _, .inl rfl⟩
  · refine ⟨_, c, rfl, hc, .inr ⟨g, 0, rfl, fun i r hr => ?_⟩⟩
    have hi := (List.getElem?_eq_some_iff.1 hr).1
    obtain ⟨a0, a1⟩ := wMk_at l i r hr
    have c0 := World.ownsRow.cellAt h0 (i * 2) (by omega)
    have c1 := World.ownsRow.cellAt h0 (i * 2 + 1) (by omega)
    exact ⟨by rw [Nat.zero_add, c0, a0], by rw [Nat.zero_add, c1, a1]⟩
/-- v holds l in a block of its own, from base on. -/
def MkNew (w : World) (base : Nat) (v : Value) (l : List Mk) : Prop := (l = [] ∧ ∃ a c, v = .slice a 0 c) ∨ ∃ g off cap, v = .slice (some ⟨g, off, none⟩) l.length cap ∧ base ≤ g ∧ g < w.heap.size ∧ MkAt w g off l ∧ ∀ o, w.frozen? ⟨g, o, none⟩ = false
theorem MkNew.in {w : World} {base : Nat} {v : Value} {l : List Mk} (h : MkNew w base v l) : ∃ a c, v = .slice a l.length c ∧ MkIn w a l := by
  rcases h with ⟨rfl, a, c, rfl⟩ | ⟨g, off, cap, rfl, _, _, h, _⟩
  · exact ⟨a, c, rfl, .inl rfl⟩
  · exact ⟨_, _, rfl, .inr ⟨g, off, rfl, h⟩⟩
theorem MkNew.keep {w w' : World} {base : Nat} {v : Value} {l : List Mk} (h : MkNew w base v l) (hb : Below w.heap.size w w') : MkNew w' base v l := by
  rcases h with h | ⟨g, off, cap, e, h1, h2, h3, h4⟩
  · exact .inl h
  · exact .inr ⟨g, off, cap, e, h1, Nat.lt_of_lt_of_le h2 hb.size, h3.keep hb, fun o => by rw [hb.frozen (p := ⟨g, o, none⟩) h2]; exact h4 o⟩
theorem MkNew.lower {w : World} {b0 base : Nat} {v : Value} {l : List Mk} (h : MkNew w base v l) (hb : b0 ≤ base) : MkNew w b0 v l := by
  rcases h with h | ⟨g, off, cap, e, h1, h2⟩
  · exact .inl h
  · exact .inr ⟨g, off, cap, e, by omega, h2⟩
theorem MkNew.nil (w : World) (base : Nat) (a : Option Addr) (c : Nat) : MkNew w base (.slice a 0 c) [] := .inl ⟨rfl, a, c, rfl⟩
theorem MkAt.one {g G off : Nat} {w w' : World} {l : List Mk} (h : MkAt w G off l) (k : OneB g w w') (hne : G ≠ g) : MkAt w' G off l := by
  intro i r hr
  obtain ⟨p0, p1⟩ := h i r hr
  exact ⟨by rw [k.cell _ hne]; exact p0, by rw [k.cell _ hne]; exact p1⟩
theorem MkNew.one {g : Nat} {w w' : World} {base : Nat} {v : Value} {l : List Mk} (h : MkNew w base v l) (k : OneB g w w') (hne : ∀ G, v.ownBlock = some G → G ≠ g) : MkNew w' base v l := by
  rcases h with h | ⟨G, off, cap, rfl, h1, h2, h3, h4⟩
  · exact .inl h
  · have hn := hne G rfl
    exact .inr ⟨G, off, cap, rfl, h1, by rw [k.size]; exact h2, h3.one k hn, fun o => by rw [k.frozen _ hn]; exact h4 o⟩
theorem OwnMk.new {w : World} {base : Nat} {v : Value} {l : List Mk} (h : OwnMk w base v l) : MkNew w base v l := by
  obtain ⟨a, c, e, _, hi⟩ := h.in
  obtain ⟨_, h1 | ⟨g, c', cur, rfl, hg, hh, _⟩⟩ := h
  · have e0 : l = [] := List.eq_nil_of_length_eq_zero h1.2
    exact .inl ⟨e0, none, 0, h1.1⟩
  · simp only [Value.slice.injEq, true_and] at e
    obtain ⟨rfl, rfl⟩ := e
    rcases hi with hi | ⟨b, off, e2, hat⟩
    · exact .inl ⟨hi, some ⟨g, 0, none⟩, c', by rw [hi]; rfl⟩
    · simp only [Option.some.injEq, Addr.mk.injEq, and_true] at e2
      obtain ⟨rfl, rfl⟩ := e2
      exact .inr ⟨g, 0, c', rfl, hg, (Array.getElem?_eq_some_iff.1 hh).1, hat, fun o => by simp [World.frozen?, hh]⟩
theorem MkNew.spot {w : World} {base : Nat} {a : Option Addr} {n c : Nat} {l : List Mk} (h : MkNew w base (.slice a n c) l) : ∃ g off, base ≤ g ∧ (l = [] ∨ (a = some ⟨g, off, none⟩ ∧ MkAt w g off l ∧ ∀ o, o < off + l.length * 2 → w.frozen? ⟨g, o, none⟩ = false)) ∧ (l = [] ∨ g < w.heap.size) := by
  rcases h with ⟨e, _⟩ | ⟨g, off, cap, e, h1, h2, h3, h4⟩
  · exact ⟨base, 0, Nat.le_refl _, .inl e, .inl e⟩
  · simp only [Value.slice.injEq] at e
    obtain ⟨rfl, rfl, rfl⟩ := e
    exact ⟨g, off, h1, .inr ⟨rfl, h3, fun o _ => h4 o⟩, .inr h2⟩
theorem wpList_append1Mk {ops : Array Oper} {rest : List Oper} {o : Oper} {a : Act} {Q : Exit → Act → World → Prop} (w : World) (hgd : o.guard = none) (s x : Operand)
    (ho : o.op = .call { callee := .builtin .append, args := #[s, x], argTypes := #[49, 49] }) (base : Nat) (v : Value) (l : List Mk) (r : Mk)
    (hs : a.eval s = v) (hx : a.eval x = .slice (some ⟨w.heap.size, 0, none⟩) 1 1) (hown : OwnMk w base v l) (hl : l.length ≤ 2000000) (hbase : base ≤ w.heap.size)
    (h : ∀ v' w', OwnMk w' base v' (l ++ [r]) → Below base w w' → w.grownBy w' v.ownBlock → wpList Try.prog ops Q rest (a.put o.dst v') w') :
    wpList Try.prog ops Q (o :: rest) a (w.alloc (.cells #[.int .i64 r.tm, .bool r.gd] 112)) := by
  obtain ⟨i0, hi, hz0, hz1, hz2⟩ := info_parts infoMk
  refine wpList_append_own _ hgd s x 49 ho base 112 i0 (.agg #[.int .i64 0, .bool false]) 2 16 Try.underlying49 hi hz0 hz1 hz2 rfl (by decide) v l.length (wMk l) hs (World.ownsRow.alloc hown _) ⟨w.heap.size, 0, none⟩ 1 1 (cellMk r) hx rfl ?_ ?_ ?_ ?_ ?_ ?_
  · intro j u hj
    match j, hj with
    | 0, hj => simp [cellMk] at hj; subst hj; simp [Addr.add]
    | 1, hj => simp [cellMk] at hj; subst hj; simp [Addr.add]
  · intro u hu; simp [cellMk] at hu; rcases hu with rfl | rfl <;> rfl
  · unfold maxLen; omega
  · omega
  · simp; omega
  · intro v' w' h1 h2 h3
    have e : wMk (l ++ [r]) = wMk l ++ cellMk r := by simp [wMk]
    refine h v' w' (by unfold OwnMk; rw [e, List.length_append]; exact h1) ?_ ?_
    · exact ((Below.refl base w).alloc hbase _).grown h2 (by simp; omega) (fun q hq => row_ge hown q hq)
    · have hb := (Below.refl w.heap.size w).alloc (Nat.le_refl _) (.cells #[.int .i64 r.tm, .bool r.gd] 112)
      exact ⟨h2.os.trans hb.os, h2.tape.trans hb.tape, h2.output.trans hb.output, Nat.le_trans hb.size h2.size, fun q hq hn => (h2.block q (Nat.lt_of_lt_of_le hq hb.size) hn).trans (hb.block q hq)⟩
theorem wpList_appendInMk {ops : Array Oper} {rest : List Oper} {o : Oper} {a : Act} {Q : Exit → Act → World → Prop} (w : World) (hgd : o.guard = none) (s x : Operand)
    (ho : o.op = .call { callee := .builtin .append, args := #[s, x], argTypes := #[49, 49] }) (base : Nat) (v : Value) (l m : List Mk) (pa : Option Addr) (cap : Nat)
    (hs : a.eval s = v) (hx : a.eval x = .slice pa m.length cap) (hown : OwnMk w base v l) (hin : MkIn w pa m) (hl : l.length + m.length ≤ 2000000) (hbase : base ≤ w.heap.size)
    (h : ∀ v' w', OwnMk w' base v' (l ++ m) → Below base w w' → wpList Try.prog ops Q rest (a.put o.dst v') w') :
    wpList Try.prog ops Q (o :: rest) a w := by
  obtain ⟨i0, hi, hz0, hz1, hz2⟩ := info_parts infoMk
  refine wpList_plain hgd fun K hK => wp_append_in w s x 49 112 ho i0 (.agg #[.int .i64 0, .bool false]) 2 16 Try.underlying49 hi hz0 hz1 hz2 rfl (by decide) base v l.length (wMk l) hs hown pa cap m.length (wMk m) hx (wMk_len m) (wMk_in hin) (wMk_one m) (by unfold maxLen; omega) (by omega) hbase fun v' w' h1 h2 _ => hK _ _ (h v' w' ?_ h2)
  unfold OwnMk
  rw [List.length_append, show wMk (l ++ m) = wMk l ++ wMk m by simp [wMk]]
  exact h1
end Go.Proofs.Ytmgidcigihpbeaa
/-
  A new list, marked; held.
-/
namespace Go.Proofs.Ytmgidcigihpbeaa
open Go.ChangeShapes Go.WideShapes Go.ChangeAt Go.RowKit Go.Sort
/-- l, marked from k on. -/
def mkdMk : Nat → List Mk → List Mk
  | _, [] => []
  | k, _ :: l => ⟨(k : Int), (((k : Int) + 1) % 3 == 0)⟩ :: mkdMk (k + 2) l
theorem mkdMk_len : ∀ (l : List Mk) (k : Nat), (mkdMk k l).length = l.length
  | [], _ => rfl
  | _ :: l, k => by rw [mkdMk, List.length_cons, mkdMk_len l, List.length_cons]
theorem mkdMk_at : ∀ (l : List Mk) (k i : Nat), i < l.length → (mkdMk k l)[i]? = some ⟨((k + i * 2 : Nat) : Int), ((((k + i * 2 : Nat) : Int) + 1) % 3 == 0)⟩
  | [], _, _, h => by simp at h
  | x :: l, k, 0, _ => by simp [mkdMk]
  | x :: l, k, i + 1, h => by
    rw [mkdMk, List.getElem?_cons_succ, mkdMk_at l (k + 2) i (by simpa using h), show k + 2 + i * 2 = k + (i + 1) * 2 by omega]
theorem mkdMk_append : ∀ (A B : List Mk) (k : Nat), mkdMk k (A ++ B) = mkdMk k A ++ mkdMk (k + A.length * 2) B
  | [], B, k => by simp [mkdMk]
  | x :: A, B, k => by rw [List.cons_append, mkdMk, mkdMk, List.cons_append, mkdMk_append A B (k + 2), List.length_cons, show k + 2 + A.length * 2 = k + (A.length + 1) * 2 by omega]
/-- The first i of l are marked from k on. -/
theorem MkAt.mark1 {w : World} {g off k i : Nat} {l : List Mk} (h : MkAt w g off (mkdMk k (l.take i) ++ l.drop i)) (hi : i < l.length) :
    MkAt (((w.setCell ⟨g, off + i * 2, none⟩ (.int .i64 (((k + i * 2 : Nat) : Int)))).setCell ⟨g, off + i * 2 + 1, none⟩ (.bool ((((k + i * 2 : Nat) : Int) + 1) % 3 == 0)))) g off (mkdMk k (l.take (i + 1)) ++ l.drop (i + 1)) := by
  have len : (mkdMk k (l.take i) ++ l.drop i).length = l.length := by rw [List.length_append, mkdMk_len, ← List.length_append, List.take_append_drop]
  have lti : (l.take i).length = i := by rw [List.length_take]; omega
  have key : ∀ (q : Nat) r, (mkdMk k (l.take (i + 1)) ++ l.drop (i + 1))[q]? = some r → q = i ∧ r = ⟨((k + i * 2 : Nat) : Int), ((((k + i * 2 : Nat) : Int) + 1) % 3 == 0)⟩ ∨ q ≠ i ∧ (mkdMk k (l.take i) ++ l.drop i)[q]? = some r := by
    intro q r hr
    have e1 : l.take (i + 1) = l.take i ++ [l[i]] := List.take_succ_eq_append_getElem hi
    rw [e1, mkdMk_append, lti, List.append_assoc] at hr
    rw [List.drop_eq_getElem_cons hi]
    by_cases h1 : q < i
    · refine .inr ⟨by omega, ?_⟩
      rw [List.getElem?_append_left (by rw [mkdMk_len, lti]; exact h1)] at hr ⊢
      exact hr
    · rw [List.getElem?_append_right (by rw [mkdMk_len, lti]; omega), mkdMk_len, lti] at hr
      by_cases h2 : q = i
      · subst h2
        left
        rw [Nat.sub_self] at hr
        simp only [mkdMk, List.singleton_append, List.getElem?_cons_zero, Option.some.injEq] at hr
        exact ⟨rfl, hr.symm⟩
      · right
        refine ⟨h2, ?_⟩
        rw [List.getElem?_append_right (by rw [mkdMk_len, lti]; omega), mkdMk_len, lti]
        obtain ⟨d, hd⟩ : ∃ d, q - i = d + 1 := ⟨q - i - 1, by omega⟩
        rw [hd] at hr ⊢
        simp [mkdMk] at hr ⊢
        rw [show i + (d + 1) = i + 1 + d by omega]
        exact hr
  have there : ∀ j, j < 2 → ∃ u, w.cell? ⟨g, off + i * 2 + j, none⟩ = some u := by
    intro j hj
    obtain ⟨r, hr⟩ : ∃ r, (mkdMk k (l.take i) ++ l.drop i)[i]? = some r := ⟨_, List.getElem?_eq_getElem (by rw [len]; exact hi)⟩
    obtain ⟨p0, p1⟩ := h i r hr
    match j, hj with
    | 0, _ => exact ⟨_, p0⟩
    | 1, _ => exact ⟨_, p1⟩
  intro q r hr
  rcases key q r hr with ⟨rfl, rfl⟩ | ⟨hq, hr2⟩
  · obtain ⟨u0, g0⟩ : ∃ u, (w).cell? ⟨g, off + q * 2, none⟩ = some u := by
      obtain ⟨u, hu⟩ := there 0 (by omega)
      exact ⟨u, by simpa using hu⟩
    obtain ⟨u1, g1⟩ : ∃ u, ((w.setCell ⟨g, off + q * 2, none⟩ (.int .i64 (((k + q * 2 : Nat) : Int))))).cell? ⟨g, off + q * 2 + 1, none⟩ = some u := by
      obtain ⟨u, hu⟩ := there 1 (by omega)
      refine ⟨u, ?_⟩
      rw [World.cell?_setCell_other _ _ _ _ (offMk_ne (by omega))]
      exact hu
    exact ⟨by rw [World.cell?_setCell_other _ _ _ _ (offMk_ne (by omega))]; exact World.cell?_setCell_same _ _ _ g0, by exact World.cell?_setCell_same _ _ _ g1⟩
  · obtain ⟨p0, p1⟩ := h q r hr2
    exact ⟨by rw [World.cell?_setCell_other _ _ _ _ (offMk_ne (by omega)), World.cell?_setCell_other _ _ _ _ (offMk_ne (by omega))]; exact p0, by rw [World.cell?_setCell_other _ _ _ _ (offMk_ne (by omega)), World.cell?_setCell_other _ _ _ _ (offMk_ne (by omega))]; exact p1⟩
end Go.Proofs.Ytmgidcigihpbeaa
/-
  PolicyFault, on both sides; policies that lie in memory.
-/
namespace Go.Proofs.Ytmgidcigihpbeaa
open Go.ChangeShapes Go.WideShapes Go.ChangeAt Go.RowKit
/-- A policy in memory. -/
structure PolAt (w : World) (b : Nat) (b0 b1 b2 : Bool) (l s e g : Int) : Prop where
  c0 : w.cell? ⟨b, 0, none⟩ = some (.bool b0)
  c1 : w.cell? ⟨b, 1, none⟩ = some (.bool b1)
  c2 : w.cell? ⟨b, 2, none⟩ = some (.bool b2)
  c3 : w.cell? ⟨b, 3, none⟩ = some (.int .i64 l)
  c4 : w.cell? ⟨b, 4, none⟩ = some (.int .i64 s)
  c5 : w.cell? ⟨b, 5, none⟩ = some (.int .i64 e)
  c6 : w.cell? ⟨b, 6, none⟩ = some (.int .i64 g)
  fr : ∀ o, w.frozen? ⟨b, o, none⟩ = false
  lt : b < w.heap.size
theorem PolAt.keep {w w' : World} {b : Nat} {b0 b1 b2 : Bool} {l s e g : Int} (k : PolAt w b b0 b1 b2 l s e g) (hb : Below w.heap.size w w') : PolAt w' b b0 b1 b2 l s e g :=
  ⟨by rw [hb.cell (p := ⟨b, 0, none⟩) k.lt]; exact k.c0, by rw [hb.cell (p := ⟨b, 1, none⟩) k.lt]; exact k.c1, by rw [hb.cell (p := ⟨b, 2, none⟩) k.lt]; exact k.c2, by rw [hb.cell (p := ⟨b, 3, none⟩) k.lt]; exact k.c3, by rw [hb.cell (p := ⟨b, 4, none⟩) k.lt]; exact k.c4, by rw [hb.cell (p := ⟨b, 5, none⟩) k.lt]; exact k.c5, by rw [hb.cell (p := ⟨b, 6, none⟩) k.lt]; exact k.c6,
    fun o => by rw [hb.frozen (p := ⟨b, o, none⟩) k.lt]; exact k.fr o, Nat.lt_of_lt_of_le k.lt hb.size⟩
theorem PolAt.new (w : World) (b0 b1 b2 : Bool) (l s e g : Int) (t : TypeId) : PolAt (w.alloc (.cells #[.bool b0, .bool b1, .bool b2, .int .i64 l, .int .i64 s, .int .i64 e, .int .i64 g] t)) w.heap.size b0 b1 b2 l s e g :=
  ⟨by simp, by simp, by simp, by simp, by simp, by simp, by simp, fun o => by simp, by simp⟩
def timeB (x : Int) : Bool := decide (0 ≤ x) && decide (x ≤ 1000000000000000)
theorem timeB_yes {x : Int} (h0 : 0 ≤ x) (h1 : x ≤ 1000000000000000) : timeB x = true := by simp [timeB, h0, h1]
theorem timeB_of {x : Int} (h : timeB x = true) : 0 ≤ x ∧ x ≤ 1000000000000000 := by simpa [timeB] using h
theorem l1Time_all (x : Int) (w : World) : Calls Try.prog 46 #[.int .i64 x] w fun r w' => r = .returned (.bool (timeB x)) ∧ w' = w := by
  by_cases c1 : 0 ≤ x
  · by_cases c2 : x ≤ 1000000000000000
    · rw [timeB_yes c1 c2]
      have d2 : decide (x ≤ 1000000000000000) = true := by simp; omega
      go_enter Try.func46, Try.ntmps46
      go_wp2
      go_ret
      exact ⟨rfl, rfl⟩
    · have e : timeB x = false := by simp [timeB]; omega
      rw [e]
      have d2 : decide (x ≤ 1000000000000000) = false := by simp; omega
      go_enter Try.func46, Try.ntmps46
      go_wp2
      go_ret
      exact ⟨rfl, rfl⟩
  · have e : timeB x = false := by simp [timeB]; omega
    rw [e]
    go_enter Try.func46, Try.ntmps46
    go_wp2
    go_ret
    exact ⟨rfl, rfl⟩
theorem isTime_all (x : Int) (w : World) : Calls Try.prog 41 #[.int .i64 x] w fun r w' => r = .returned (.bool (timeB x)) ∧ w' = w := by
  by_cases c1 : 0 ≤ x
  · by_cases c2 : x ≤ 1000000000000000
    · rw [timeB_yes c1 c2]
      have d2 : decide (x ≤ 1000000000000000) = true := by simp; omega
      go_enter Try.func41, Try.ntmps41
      go_wp2
      go_ret
      exact ⟨rfl, rfl⟩
    · have e : timeB x = false := by simp [timeB]; omega
      rw [e]
      have d2 : decide (x ≤ 1000000000000000) = false := by simp; omega
      go_enter Try.func41, Try.ntmps41
      go_wp2
      go_ret
      exact ⟨rfl, rfl⟩
  · have e : timeB x = false := by simp [timeB]; omega
    rw [e]
    go_enter Try.func41, Try.ntmps41
    go_wp2
    go_ret
    exact ⟨rfl, rfl⟩
def polB (l s e g : Int) : Bool := (timeB l || decide (l = -1)) && timeB s && timeB e && timeB g
def polC (l s e g : Int) : Int := if polB l s e g = true then 0 else 3
theorem polC_ok {l s e g : Int} (h : polB l s e g = true) : polC l s e g = 0 := by rw [polC, if_pos h]
theorem polC_bad {l s e g : Int} (h : polB l s e g = false) : polC l s e g = 3 := by rw [polC, if_neg (by rw [h]; decide)]
end Go.Proofs.Ytmgidcigihpbeaa
/-
  StoreLife, on both sides.
-/
namespace Go.Proofs.Ytmgidcigihpbeaa
open Go.ChangeShapes Go.WideShapes Go.ChangeAt Go.RowKit
/-- Two cells that may be written. -/
structure IR (w : World) (b : Nat) (v0 v1 : Value) : Prop where
  c0 : w.cell? ⟨b, 0, none⟩ = some v0
  c1 : w.cell? ⟨b, 1, none⟩ = some v1
  fr : ∀ o, w.frozen? ⟨b, o, none⟩ = false
  lt : b < w.heap.size
theorem IR.keep {w w' : World} {b : Nat} {v0 v1 : Value} (k : IR w b v0 v1) (hb : Below w.heap.size w w') : IR w' b v0 v1 :=
  ⟨by rw [hb.cell (p := ⟨b, 0, none⟩) k.lt]; exact k.c0, by rw [hb.cell (p := ⟨b, 1, none⟩) k.lt]; exact k.c1, fun o => by rw [hb.frozen (p := ⟨b, o, none⟩) k.lt]; exact k.fr o, Nat.lt_of_lt_of_le k.lt hb.size⟩
theorem IR.new (w : World) (v0 v1 : Value) (t : TypeId) : IR (w.alloc (.cells #[v0, v1] t)) w.heap.size v0 v1 :=
  ⟨by rw [World.cell?_alloc_mark]; rfl, by rw [World.cell?_alloc_mark]; rfl, fun o => by have e := heap_alloc_new w (.cells #[v0, v1] t); unfold World.frozen?; rw [e]; simp, by simp⟩
def statB (st : Int) : Bool := decide (st = 200) || decide (st = 404) || decide (st = 410)
/-- Whether an answer may be kept. -/
def keepB (b0 : Bool) (l st : Int) : Bool := !b0 && statB st && !(decide (st = 200) && decide (l = -1))
def lifeX (l ng : Int) : Int := if l = -1 then ng else l
def rangeB (st ng : Int) : Bool := decide (200 ≤ st) && decide (st ≤ 599) && timeB ng
def lifeC (b0 : Bool) (l s e g st ng : Int) : Int := if polB l s e g = true then (if rangeB st ng = true then (if keepB b0 l st = true then 0 else 4) else 3) else 3
def lifeV (b0 : Bool) (l s e g st ng : Int) : Int := if lifeC b0 l s e g st ng = 0 then lifeX l ng else 0
theorem life_pol {b0 : Bool} {l s e g st ng : Int} (h : polB l s e g = false) : lifeC b0 l s e g st ng = 3 ∧ lifeV b0 l s e g st ng = 0 := by
  have c : lifeC b0 l s e g st ng = 3 := by rw [lifeC, if_neg (by rw [h]; decide)]
  exact ⟨c, by rw [lifeV, c, if_neg (by decide)]⟩
theorem life_range {b0 : Bool} {l s e g st ng : Int} (h : polB l s e g = true) (h2 : rangeB st ng = false) : lifeC b0 l s e g st ng = 3 ∧ lifeV b0 l s e g st ng = 0 := by
  have c : lifeC b0 l s e g st ng = 3 := by rw [lifeC, if_pos h, if_neg (by rw [h2]; decide)]
  exact ⟨c, by rw [lifeV, c, if_neg (by decide)]⟩
theorem life_none {b0 : Bool} {l s e g st ng : Int} (h : polB l s e g = true) (h2 : rangeB st ng = true) (h3 : keepB b0 l st = false) : lifeC b0 l s e g st ng = 4 ∧ lifeV b0 l s e g st ng = 0 := by
  have c : lifeC b0 l s e g st ng = 4 := by rw [lifeC, if_pos h, if_pos h2, if_neg (by rw [h3]; decide)]
  exact ⟨c, by rw [lifeV, c, if_neg (by decide)]⟩
theorem life_ok {b0 : Bool} {l s e g st ng : Int} (h : polB l s e g = true) (h2 : rangeB st ng = true) (h3 : keepB b0 l st = true) : lifeC b0 l s e g st ng = 0 ∧ lifeV b0 l s e g st ng = lifeX l ng := by
  have c : lifeC b0 l s e g st ng = 0 := by rw [lifeC, if_pos h, if_pos h2, if_pos h3]
  exact ⟨c, by rw [lifeV, if_pos c]⟩
theorem lifeX_told {l ng : Int} (h : ¬ l = -1) : lifeX l ng = l := by rw [lifeX, if_neg h]
theorem lifeX_not {ng : Int} : lifeX (-1) ng = ng := by rw [lifeX, if_pos rfl]
theorem l1In_all (x lo hi : Int) (w : World) : Calls Try.prog 52 #[.int .i64 x, .int .i64 lo, .int .i64 hi] w fun r w' => r = .returned (.bool (decide (lo ≤ x) && decide (x ≤ hi))) ∧ w' = w := by
  by_cases c1 : lo ≤ x
  · by_cases c2 : x ≤ hi
    · have e : (decide (lo ≤ x) && decide (x ≤ hi)) = true := by simp [c1, c2]
      rw [e]
      have d2 : decide (x ≤ hi) = true := by simp [c2]
      go_enter Try.func52, Try.ntmps52
      go_wp2
      go_ret
      exact ⟨rfl, rfl⟩
    · have e : (decide (lo ≤ x) && decide (x ≤ hi)) = false := by simp [c2]
      rw [e]
      have d2 : decide (x ≤ hi) = false := by simp [c2]
      go_enter Try.func52, Try.ntmps52
      go_wp2
      go_ret
      exact ⟨rfl, rfl⟩
  · have e : (decide (lo ≤ x) && decide (x ≤ hi)) = false := by simp [c1]
    rw [e]
    go_enter Try.func52, Try.ntmps52
    go_wp2
    go_ret
    exact ⟨rfl, rfl⟩
def lifeT (b0 : Bool) (l st ng : Int) : Value := .tuple #[.int .i64 (if keepB b0 l st = true then lifeX l ng else 0), .bool (keepB b0 l st)]
end Go.Proofs.Ytmgidcigihpbeaa
/-
  What AddTime's model and AddTime itself answer, for any two numbers: one contract a function and a case.
-/
namespace Go.Proofs.Ytmgidcigihpbeaa
open Go.ChangeShapes Go.WideShapes Go.ChangeAt Go.RowKit
end Go.Proofs.Ytmgidcigihpbeaa
/-
  What is kept with an answer: faults, ages and phases, on both sides.
-/
namespace Go.Proofs.Ytmgidcigihpbeaa
open Go.ChangeShapes Go.WideShapes Go.ChangeAt Go.RowKit
/-- What is kept with an answer, in memory. -/
structure MetaAt (w : World) (b : Nat) (t g l s e : Int) (b1 b2 : Bool) : Prop where
  c0 : w.cell? ⟨b, 0, none⟩ = some (.int .i64 t)
  c1 : w.cell? ⟨b, 1, none⟩ = some (.int .i64 g)
  c2 : w.cell? ⟨b, 2, none⟩ = some (.int .i64 l)
  c3 : w.cell? ⟨b, 3, none⟩ = some (.int .i64 s)
  c4 : w.cell? ⟨b, 4, none⟩ = some (.int .i64 e)
  c5 : w.cell? ⟨b, 5, none⟩ = some (.bool b1)
  c6 : w.cell? ⟨b, 6, none⟩ = some (.bool b2)
  fr : ∀ o, w.frozen? ⟨b, o, none⟩ = false
  lt : b < w.heap.size
theorem MetaAt.keep {w w' : World} {b : Nat} {t g l s e : Int} {b1 b2 : Bool} (k : MetaAt w b t g l s e b1 b2) (hb : Below w.heap.size w w') : MetaAt w' b t g l s e b1 b2 :=
  ⟨by rw [hb.cell (p := ⟨b, 0, none⟩) k.lt]; exact k.c0, by rw [hb.cell (p := ⟨b, 1, none⟩) k.lt]; exact k.c1, by rw [hb.cell (p := ⟨b, 2, none⟩) k.lt]; exact k.c2, by rw [hb.cell (p := ⟨b, 3, none⟩) k.lt]; exact k.c3, by rw [hb.cell (p := ⟨b, 4, none⟩) k.lt]; exact k.c4, by rw [hb.cell (p := ⟨b, 5, none⟩) k.lt]; exact k.c5, by rw [hb.cell (p := ⟨b, 6, none⟩) k.lt]; exact k.c6,
    fun o => by rw [hb.frozen (p := ⟨b, o, none⟩) k.lt]; exact k.fr o, Nat.lt_of_lt_of_le k.lt hb.size⟩
theorem MetaAt.new (w : World) (t g l s e : Int) (b1 b2 : Bool) (x : TypeId) : MetaAt (w.alloc (.cells #[.int .i64 t, .int .i64 g, .int .i64 l, .int .i64 s, .int .i64 e, .bool b1, .bool b2] x)) w.heap.size t g l s e b1 b2 :=
  ⟨by simp, by simp, by simp, by simp, by simp, by simp, by simp, fun o => by simp, by simp⟩
def addT (a b : Int) : Int := if 1000000000000000 < a + b then 1000000000000000 else a + b
theorem addT_time {a b : Int} (ha : 0 ≤ a) (hb : 0 ≤ b) : 0 ≤ addT a b ∧ addT a b ≤ 1000000000000000 := by unfold addT; split <;> omega
def metaB (t g l s e : Int) : Bool := timeB t && timeB g && timeB l && timeB s && timeB e
def metaC (t g l s e : Int) : Int := if metaB t g l s e = true then 0 else 3
theorem metaC_ok {t g l s e : Int} (h : metaB t g l s e = true) : metaC t g l s e = 0 := by rw [metaC, if_pos h]
theorem metaC_bad {t g l s e : Int} (h : metaB t g l s e = false) : metaC t g l s e = 3 := by rw [metaC, if_neg (by rw [h]; decide)]
theorem metaB_of {t g l s e : Int} (h : metaB t g l s e = true) : (0 ≤ t ∧ t ≤ 1000000000000000) ∧ (0 ≤ g ∧ g ≤ 1000000000000000) ∧ (0 ≤ l ∧ l ≤ 1000000000000000) ∧ (0 ≤ s ∧ s ≤ 1000000000000000) ∧ (0 ≤ e ∧ e ≤ 1000000000000000) := by
  simp only [metaB, Bool.and_eq_true] at h
  exact ⟨timeB_of h.1.1.1.1, timeB_of h.1.1.1.2, timeB_of h.1.1.2, timeB_of h.1.2, timeB_of h.2⟩
def askB (t g l s e n : Int) : Bool := metaB t g l s e && timeB n && decide (t ≤ n)
def askM (t g l s e n : Int) : Int := if askB t g l s e n = true then 0 else 3
theorem askM_ok {t g l s e n : Int} (h : askB t g l s e n = true) : askM t g l s e n = 0 := by rw [askM, if_pos h]
theorem askM_bad {t g l s e n : Int} (h : askB t g l s e n = false) : askM t g l s e n = 3 := by rw [askM, if_neg (by rw [h]; decide)]
theorem askB_of {t g l s e n : Int} (h : askB t g l s e n = true) : metaB t g l s e = true ∧ (0 ≤ n ∧ n ≤ 1000000000000000) ∧ t ≤ n := by
  simp only [askB, Bool.and_eq_true, decide_eq_true_eq] at h
  exact ⟨h.1.1, timeB_of h.1.2, h.2⟩
def ageM (t g n : Int) : Int := addT g (n - t)
def ageA (t g l s e n : Int) : Int := if askB t g l s e n = true then ageM t g n else 0
theorem ageA_ok {t g l s e n : Int} (h : askB t g l s e n = true) : ageA t g l s e n = ageM t g n := by rw [ageA, if_pos h]
theorem ageA_bad {t g l s e n : Int} (h : askB t g l s e n = false) : ageA t g l s e n = 0 := by rw [ageA, if_neg (by rw [h]; decide)]
def lifeM (l : Int) (b1 b2 : Bool) : Int := if (b1 || b2) = true then 0 else l
/-- The phase of an answer of this age, with this life. -/
def phaseV (a li s e : Int) (b2 : Bool) : Int := if a < li then 1 else if (!b2 && decide (a < addT li s)) = true then 2 else if a < addT li e then 3 else 0
def phaseM (t g l s e : Int) (b1 b2 : Bool) (n : Int) : Int := phaseV (ageM t g n) (lifeM l b1 b2) s e b2
def phaseA (t g l s e : Int) (b1 b2 : Bool) (n : Int) : Int := if askB t g l s e n = true then phaseM t g l s e b1 b2 n else 0
theorem phaseA_ok {t g l s e n : Int} {b1 b2 : Bool} (h : askB t g l s e n = true) : phaseA t g l s e b1 b2 n = phaseM t g l s e b1 b2 n := by rw [phaseA, if_pos h]
theorem phaseA_bad {t g l s e n : Int} {b1 b2 : Bool} (h : askB t g l s e n = false) : phaseA t g l s e b1 b2 n = 0 := by rw [phaseA, if_neg (by rw [h]; decide)]
theorem phase1 {a li s e : Int} {b2 : Bool} (h : a < li) : phaseV a li s e b2 = 1 := by rw [phaseV, if_pos h]
theorem phase2 {a li s e : Int} {b2 : Bool} (h : ¬ a < li) (h2 : (!b2 && decide (a < addT li s)) = true) : phaseV a li s e b2 = 2 := by rw [phaseV, if_neg h, if_pos h2]
theorem phase3 {a li s e : Int} {b2 : Bool} (h : ¬ a < li) (h2 : ¬ (!b2 && decide (a < addT li s)) = true) (h3 : a < addT li e) : phaseV a li s e b2 = 3 := by rw [phaseV, if_neg h, if_neg h2, if_pos h3]
theorem phase0 {a li s e : Int} {b2 : Bool} (h : ¬ a < li) (h2 : ¬ (!b2 && decide (a < addT li s)) = true) (h3 : ¬ a < addT li e) : phaseV a li s e b2 = 0 := by rw [phaseV, if_neg h, if_neg h2, if_neg h3]
theorem lifeM_time {l : Int} {b1 b2 : Bool} (h : 0 ≤ l ∧ l ≤ 1000000000000000) : 0 ≤ lifeM l b1 b2 ∧ lifeM l b1 b2 ≤ 1000000000000000 := by unfold lifeM; split <;> omega
theorem ageM_time {t g n : Int} (h : 0 ≤ g) (h2 : t ≤ n) : 0 ≤ ageM t g n ∧ ageM t g n ≤ 1000000000000000 := addT_time h (by omega)
theorem l1Min_all (x y : Int) (w : World) : Calls Try.prog 83 #[.int .i64 x, .int .i64 y] w fun r w' => r = .returned (.int .i64 (if x < y then x else y)) ∧ w' = w := by
  by_cases c : x < y
  · rw [if_pos c]
    go_enter Try.func83, Try.ntmps83
    go_wp2
    go_ret
    exact ⟨rfl, rfl⟩
  · rw [if_neg c]
    go_enter Try.func83, Try.ntmps83
    go_wp2
    go_ret
    exact ⟨rfl, rfl⟩
theorem l1Add_all (x y : Int) (hx : 0 ≤ x ∧ x ≤ 1000000000000000) (hy : 0 ≤ y ∧ y ≤ 1000000000000000) (w : World) : Calls Try.prog 49 #[.int .i64 x, .int .i64 y] w fun r w' => r = .returned (.int .i64 (addT x y)) ∧ w' = w := by
  have HM : Hid (∀ w, Calls Try.prog 83 #[.int .i64 (x + y), .int .i64 1000000000000000] w fun r w' => r = .returned (.int .i64 (addT x y)) ∧ w' = w) := fun w => by
    have := l1Min_all (x + y) 1000000000000000 w
    have e : (if x + y < 1000000000000000 then x + y else 1000000000000000) = addT x y := by unfold addT; split <;> split <;> omega
    rw [e] at this
    exact this
  obtain ⟨x0, x1⟩ := hx
  obtain ⟨y0, y1⟩ := hy
  generalize addT x y = z at *
  go_enter Try.func49, Try.ntmps49
  go_wp2_with fail
  refine (HM.out _).mono ?_
  rintro r w1 ⟨rfl, rfl⟩
  go_wp2_with fail
  go_ret
  exact ⟨rfl, rfl⟩
theorem plus_all (x y : Int) (hx : 0 ≤ x ∧ x ≤ 1000000000000000) (hy : 0 ≤ y ∧ y ≤ 1000000000000000) (w : World) : Calls Try.prog 44 #[.int .i64 x, .int .i64 y] w fun r w' => r = .returned (.int .i64 (addT x y)) ∧ w' = w := by
  obtain ⟨x0, x1⟩ := hx
  obtain ⟨y0, y1⟩ := hy
  by_cases c : 1000000000000000 - y < x
  · have e : addT x y = 1000000000000000 := by rw [addT, if_pos (by omega)]
    rw [e]
    go_enter Try.func44, Try.ntmps44
    go_wp2
    go_ret
    exact ⟨rfl, rfl⟩
  · have e : addT x y = x + y := by rw [addT, if_neg (by omega)]
    rw [e]
    go_enter Try.func44, Try.ntmps44
    go_wp2
    go_ret
    exact ⟨rfl, rfl⟩
end Go.Proofs.Ytmgidcigihpbeaa
/-
  Numbers within bounds; RulesFault, on both sides; a copy of rules.
-/
namespace Go.Proofs.Ytmgidcigihpbeaa
open Go.ChangeShapes Go.WideShapes Go.ChangeAt Go.RowKit Go.Sort
def inW (lo hi x : Int) : Bool := decide (lo ≤ x) && decide (x ≤ hi)
theorem inW_yes {lo hi x : Int} (h0 : lo ≤ x) (h1 : x ≤ hi) : inW lo hi x = true := by simp [inW, h0, h1]
theorem inW_of {lo hi x : Int} (h : inW lo hi x = true) : lo ≤ x ∧ x ≤ hi := by simpa [inW] using h
theorem l1In_w (x lo hi : Int) (w : World) : Calls Try.prog 52 #[.int .i64 x, .int .i64 lo, .int .i64 hi] w fun r w' => r = .returned (.bool (inW lo hi x)) ∧ w' = w := by
  by_cases c1 : lo ≤ x
  · by_cases c2 : x ≤ hi
    · rw [inW_yes c1 c2]
      have d2 : decide (x ≤ hi) = true := by simpa using c2
      go_enter Try.func52, Try.ntmps52
      go_wp2
      go_ret
      exact ⟨rfl, rfl⟩
    · have e : inW lo hi x = false := by simp [inW]; omega
      rw [e]
      have d2 : decide (x ≤ hi) = false := by simpa using c2
      go_enter Try.func52, Try.ntmps52
      go_wp2
      go_ret
      exact ⟨rfl, rfl⟩
  · have e : inW lo hi x = false := by simp [inW]; omega
    rw [e]
    go_enter Try.func52, Try.ntmps52
    go_wp2
    go_ret
    exact ⟨rfl, rfl⟩
theorem isWithin_all (x lo hi : Int) (w : World) : Calls Try.prog 40 #[.int .i64 x, .int .i64 lo, .int .i64 hi] w fun r w' => r = .returned (.bool (inW lo hi x)) ∧ w' = w := by
  by_cases c1 : lo ≤ x
  · by_cases c2 : x ≤ hi
    · rw [inW_yes c1 c2]
      have d2 : decide (x ≤ hi) = true := by simpa using c2
      go_enter Try.func40, Try.ntmps40
      go_wp2
      go_ret
      exact ⟨rfl, rfl⟩
    · have e : inW lo hi x = false := by simp [inW]; omega
      rw [e]
      have d2 : decide (x ≤ hi) = false := by simpa using c2
      go_enter Try.func40, Try.ntmps40
      go_wp2
      go_ret
      exact ⟨rfl, rfl⟩
  · have e : inW lo hi x = false := by simp [inW]; omega
    rw [e]
    go_enter Try.func40, Try.ntmps40
    go_wp2
    go_ret
    exact ⟨rfl, rfl⟩
def rulesB (a0 a1 a2 a3 a4 : Int) : Bool := inW 1 1000000 a0 && inW 1 50 a1 && inW 1 1000 a2 && inW 0 1000000 a3 && inW 1 5 a4
def rulesC (a0 a1 a2 a3 a4 : Int) : Int := if rulesB a0 a1 a2 a3 a4 = true then 0 else 3
theorem rulesC_ok {a0 a1 a2 a3 a4 : Int} (h : rulesB a0 a1 a2 a3 a4 = true) : rulesC a0 a1 a2 a3 a4 = 0 := by rw [rulesC, if_pos h]
theorem rulesC_bad {a0 a1 a2 a3 a4 : Int} (h : rulesB a0 a1 a2 a3 a4 = false) : rulesC a0 a1 a2 a3 a4 = 3 := by rw [rulesC, if_neg (by rw [h]; decide)]
theorem rulesB_of {a0 a1 a2 a3 a4 : Int} (h : rulesB a0 a1 a2 a3 a4 = true) : (1 ≤ a0 ∧ a0 ≤ 1000000) ∧ (1 ≤ a1 ∧ a1 ≤ 50) ∧ (1 ≤ a2 ∧ a2 ≤ 1000) ∧ (0 ≤ a3 ∧ a3 ≤ 1000000) ∧ (1 ≤ a4 ∧ a4 ≤ 5) := by
  simp only [rulesB, Bool.and_eq_true] at h
  exact ⟨inW_of h.1.1.1.1, inW_of h.1.1.1.2, inW_of h.1.1.2, inW_of h.1.2, inW_of h.2⟩
set_option maxHeartbeats 4000000 in
theorem specRules_any (a0 a1 a2 a3 a4 : Int) (w : World) :
    Calls Try.prog 31 #[.agg #[.int .i64 a0, .int .i64 a1, .int .i64 a2, .int .i64 a3, .int .i64 a4]] w fun r w' => r = .returned (.int .i64 (rulesC a0 a1 a2 a3 a4)) ∧ Below w.heap.size w w' := by
  have HT : Hid (∀ x lo hi w, Calls Try.prog 52 #[.int .i64 x, .int .i64 lo, .int .i64 hi] w fun r w' => r = .returned (.bool (inW lo hi x)) ∧ w' = w) := l1In_w
  have HB : Hid (Below w.heap.size w (w.alloc (.cells #[.int .i64 a0, .int .i64 a1, .int .i64 a2, .int .i64 a3, .int .i64 a4] 53))) := (Below.refl _ _).alloc (Nat.le_refl _) _
  cases h0 : inW 1 1000000 a0
  · rw [rulesC_bad (by simp [rulesB, h0])]
    go_enter Try.func31, Try.ntmps31
    go_wp2_with fail
    refine (HT.out a0 1 1000000 _).mono ?_
    rintro r w1 ⟨rfl, rfl⟩
    rw [h0]
    go_wp2_with fail
    go_ret
    exact ⟨rfl, HB.out⟩
  cases h1 : inW 1 50 a1
  · rw [rulesC_bad (by simp [rulesB, h1])]
    go_enter Try.func31, Try.ntmps31
    go_wp2_with fail
    refine (HT.out a0 1 1000000 _).mono ?_
    rintro r w1 ⟨rfl, rfl⟩
    rw [h0]
    go_wp2_with fail
    refine (HT.out a1 1 50 _).mono ?_
    rintro r w1 ⟨rfl, rfl⟩
    rw [h1]
    go_wp2_with fail
    go_ret
    exact ⟨rfl, HB.out⟩
  cases h2 : inW 1 1000 a2
  · rw [rulesC_bad (by simp [rulesB, h2])]
    go_enter Try.func31, Try.ntmps31
    go_wp2_with fail
    refine (HT.out a0 1 1000000 _).mono ?_
    rintro r w1 ⟨rfl, rfl⟩
    rw [h0]
    go_wp2_with fail
    refine (HT.out a1 1 50 _).mono ?_
    rintro r w1 ⟨rfl, rfl⟩
    rw [h1]
    go_wp2_with fail
    refine (HT.out a2 1 1000 _).mono ?_
    rintro r w1 ⟨rfl, rfl⟩
    rw [h2]
    go_wp2_with fail
    go_ret
    exact ⟨rfl, HB.out⟩
  cases h3 : inW 0 1000000 a3
  · rw [rulesC_bad (by simp [rulesB, h3])]
    go_enter Try.func31, Try.ntmps31
    go_wp2_with fail
    refine (HT.out a0 1 1000000 _).mono ?_
    rintro r w1 ⟨rfl, rfl⟩
    rw [h0]
    go_wp2_with fail
    refine (HT.out a1 1 50 _).mono ?_
    rintro r w1 ⟨rfl, rfl⟩
    rw [h1]
    go_wp2_with fail
    refine (HT.out a2 1 1000 _).mono ?_
    rintro r w1 ⟨rfl, rfl⟩
    rw [h2]
    go_wp2_with fail
    refine (HT.out a3 0 1000000 _).mono ?_
    rintro r w1 ⟨rfl, rfl⟩
    rw [h3]
    go_wp2_with fail
    go_ret
    exact ⟨rfl, HB.out⟩
  cases h4 : inW 1 5 a4
  · rw [rulesC_bad (by simp [rulesB, h4])]
    go_enter Try.func31, Try.ntmps31
    go_wp2_with fail
    refine (HT.out a0 1 1000000 _).mono ?_
    rintro r w1 ⟨rfl, rfl⟩
    rw [h0]
    go_wp2_with fail
    refine (HT.out a1 1 50 _).mono ?_
    rintro r w1 ⟨rfl, rfl⟩
    rw [h1]
    go_wp2_with fail
    refine (HT.out a2 1 1000 _).mono ?_
    rintro r w1 ⟨rfl, rfl⟩
    rw [h2]
    go_wp2_with fail
    refine (HT.out a3 0 1000000 _).mono ?_
    rintro r w1 ⟨rfl, rfl⟩
    rw [h3]
    go_wp2_with fail
    refine (HT.out a4 1 5 _).mono ?_
    rintro r w1 ⟨rfl, rfl⟩
    rw [h4]
    go_wp2_with fail
    go_ret
    exact ⟨rfl, HB.out⟩
  · rw [rulesC_ok (by simp [rulesB, h0, h1, h2, h3, h4])]
    go_enter Try.func31, Try.ntmps31
    go_wp2_with fail
    refine (HT.out a0 1 1000000 _).mono ?_
    rintro r w1 ⟨rfl, rfl⟩
    rw [h0]
    go_wp2_with fail
    refine (HT.out a1 1 50 _).mono ?_
    rintro r w1 ⟨rfl, rfl⟩
    rw [h1]
    go_wp2_with fail
    refine (HT.out a2 1 1000 _).mono ?_
    rintro r w1 ⟨rfl, rfl⟩
    rw [h2]
    go_wp2_with fail
    refine (HT.out a3 0 1000000 _).mono ?_
    rintro r w1 ⟨rfl, rfl⟩
    rw [h3]
    go_wp2_with fail
    refine (HT.out a4 1 5 _).mono ?_
    rintro r w1 ⟨rfl, rfl⟩
    rw [h4]
    go_wp2_with fail
    go_ret
    exact ⟨rfl, HB.out⟩
set_option maxHeartbeats 4000000 in
theorem implRules_any (a0 a1 a2 a3 a4 : Int) (w : World) :
    Calls Try.prog 30 #[.agg #[.int .i64 a0, .int .i64 a1, .int .i64 a2, .int .i64 a3, .int .i64 a4]] w fun r w' => r = .returned (.int .i64 (rulesC a0 a1 a2 a3 a4)) ∧ Below w.heap.size w w' := by
  have HT : Hid (∀ x lo hi w, Calls Try.prog 40 #[.int .i64 x, .int .i64 lo, .int .i64 hi] w fun r w' => r = .returned (.bool (inW lo hi x)) ∧ w' = w) := isWithin_all
  have HB : Hid (Below w.heap.size w (w.alloc (.cells #[.int .i64 a0, .int .i64 a1, .int .i64 a2, .int .i64 a3, .int .i64 a4] 53))) := (Below.refl _ _).alloc (Nat.le_refl _) _
  cases h0 : inW 1 1000000 a0
  · rw [rulesC_bad (by simp [rulesB, h0])]
    go_enter Try.func30, Try.ntmps30
    go_wp2_with fail
    refine (HT.out a0 1 1000000 _).mono ?_
    rintro r w1 ⟨rfl, rfl⟩
    rw [h0]
    go_wp2_with fail
    go_ret
    exact ⟨rfl, HB.out⟩
  cases h1 : inW 1 50 a1
  · rw [rulesC_bad (by simp [rulesB, h1])]
    go_enter Try.func30, Try.ntmps30
    go_wp2_with fail
    refine (HT.out a0 1 1000000 _).mono ?_
    rintro r w1 ⟨rfl, rfl⟩
    rw [h0]
    go_wp2_with fail
    refine (HT.out a1 1 50 _).mono ?_
    rintro r w1 ⟨rfl, rfl⟩
    rw [h1]
    go_wp2_with fail
    go_ret
    exact ⟨rfl, HB.out⟩
  cases h2 : inW 1 1000 a2
  · rw [rulesC_bad (by simp [rulesB, h2])]
    go_enter Try.func30, Try.ntmps30
    go_wp2_with fail
    refine (HT.out a0 1 1000000 _).mono ?_
    rintro r w1 ⟨rfl, rfl⟩
    rw [h0]
    go_wp2_with fail
    refine (HT.out a1 1 50 _).mono ?_
    rintro r w1 ⟨rfl, rfl⟩
    rw [h1]
    go_wp2_with fail
    refine (HT.out a2 1 1000 _).mono ?_
    rintro r w1 ⟨rfl, rfl⟩
    rw [h2]
    go_wp2_with fail
    go_ret
    exact ⟨rfl, HB.out⟩
  cases h3 : inW 0 1000000 a3
  · rw [rulesC_bad (by simp [rulesB, h3])]
    go_enter Try.func30, Try.ntmps30
    go_wp2_with fail
    refine (HT.out a0 1 1000000 _).mono ?_
    rintro r w1 ⟨rfl, rfl⟩
    rw [h0]
    go_wp2_with fail
    refine (HT.out a1 1 50 _).mono ?_
    rintro r w1 ⟨rfl, rfl⟩
    rw [h1]
    go_wp2_with fail
    refine (HT.out a2 1 1000 _).mono ?_
    rintro r w1 ⟨rfl, rfl⟩
    rw [h2]
    go_wp2_with fail
    refine (HT.out a3 0 1000000 _).mono ?_
    rintro r w1 ⟨rfl, rfl⟩
    rw [h3]
    go_wp2_with fail
    go_ret
    exact ⟨rfl, HB.out⟩
  cases h4 : inW 1 5 a4
  · rw [rulesC_bad (by simp [rulesB, h4])]
    go_enter Try.func30, Try.ntmps30
    go_wp2_with fail
    refine (HT.out a0 1 1000000 _).mono ?_
    rintro r w1 ⟨rfl, rfl⟩
    rw [h0]
    go_wp2_with fail
    refine (HT.out a1 1 50 _).mono ?_
    rintro r w1 ⟨rfl, rfl⟩
    rw [h1]
    go_wp2_with fail
    refine (HT.out a2 1 1000 _).mono ?_
    rintro r w1 ⟨rfl, rfl⟩
    rw [h2]
    go_wp2_with fail
    refine (HT.out a3 0 1000000 _).mono ?_
    rintro r w1 ⟨rfl, rfl⟩
    rw [h3]
    go_wp2_with fail
    refine (HT.out a4 1 5 _).mono ?_
    rintro r w1 ⟨rfl, rfl⟩
    rw [h4]
    go_wp2_with fail
    go_ret
    exact ⟨rfl, HB.out⟩
  · rw [rulesC_ok (by simp [rulesB, h0, h1, h2, h3, h4])]
    go_enter Try.func30, Try.ntmps30
    go_wp2_with fail
    refine (HT.out a0 1 1000000 _).mono ?_
    rintro r w1 ⟨rfl, rfl⟩
    rw [h0]
    go_wp2_with fail
    refine (HT.out a1 1 50 _).mono ?_
    rintro r w1 ⟨rfl, rfl⟩
    rw [h1]
    go_wp2_with fail
    refine (HT.out a2 1 1000 _).mono ?_
    rintro r w1 ⟨rfl, rfl⟩
    rw [h2]
    go_wp2_with fail
    refine (HT.out a3 0 1000000 _).mono ?_
    rintro r w1 ⟨rfl, rfl⟩
    rw [h3]
    go_wp2_with fail
    refine (HT.out a4 1 5 _).mono ?_
    rintro r w1 ⟨rfl, rfl⟩
    rw [h4]
    go_wp2_with fail
    go_ret
    exact ⟨rfl, HB.out⟩
end Go.Proofs.Ytmgidcigihpbeaa
/-
  What is asked of a breaker, in plain words.
-/
namespace Go.Proofs.Ytmgidcigihpbeaa
open Go.ChangeShapes Go.WideShapes Go.ChangeAt Go.RowKit Go.Sort
def brkHB (s t o : Int) : Bool := inW 0 2 s && timeB t && inW 0 5 o
def timesM (l : List Mk) : Bool := l.all fun r => timeB r.tm
def sortedM : List Mk → Bool
  | [] => true
  | [_] => true
  | x :: y :: l => decide (x.tm ≤ y.tm) && sortedM (y :: l)
def stateB (s o : Int) (n : Nat) : Bool := (decide (n = 0) || decide (s = 0)) && (decide (o = 0) || decide (s = 2))
def brkC (s t o : Int) (l : List Mk) : Int := if brkHB s t o = false then 3 else if 60 < l.length then 2 else if timesM l = false then 3 else if sortedM l = false then 1 else if stateB s o l.length = false then 8 else 0
theorem sortedM_iff : ∀ l : List Mk, sortedM l = true ↔ ∀ (i : Nat) x y, l[i]? = some x → l[i + 1]? = some y → x.tm ≤ y.tm
  | [] => by simp [sortedM]
  | [z] => by
    simp only [sortedM, true_iff]
    intro i x y _ hy
    simp at hy
  | x :: y :: l => by
    rw [sortedM, Bool.and_eq_true, decide_eq_true_eq, sortedM_iff (y :: l)]
    constructor
    · rintro ⟨h0, h⟩ i u v hu hv
      cases i with
      | zero =>
        simp only [List.getElem?_cons_zero, Option.some.injEq, Nat.zero_add, List.getElem?_cons_succ] at hu hv
        subst hu; subst hv; exact h0
      | succ i => exact h i u v (by simpa using hu) (by simpa using hv)
    · intro h
      exact ⟨h 0 x y (by simp) (by simp), fun i u v hu hv => h (i + 1) u v (by simpa using hu) (by simpa using hv)⟩
theorem timesM_iff (l : List Mk) : timesM l = true ↔ ∀ (i : Nat) x, l[i]? = some x → timeB x.tm = true := by
  unfold timesM
  rw [List.all_eq_true]
  constructor
  · intro h i x hx
    exact h x (List.mem_of_getElem? hx)
  · intro h x hx
    obtain ⟨i, hi⟩ := List.getElem?_of_mem hx
    exact h i x hi
theorem timesM_no {l : List Mk} {i : Nat} {x : Mk} (hx : l[i]? = some x) (h : timeB x.tm = false) : timesM l = false := by
  cases e : timesM l with
  | false => rfl
  | true => rw [(timesM_iff l).1 e i x hx] at h; cases h
theorem sortedM_no {l : List Mk} {i : Nat} {x y : Mk} (hx : l[i]? = some x) (hy : l[i + 1]? = some y) (h : y.tm < x.tm) : sortedM l = false := by
  cases e : sortedM l with
  | false => rfl
  | true => have := (sortedM_iff l).1 e i x y hx hy; omega
theorem brkC_head {s t o : Int} {l : List Mk} (h : brkHB s t o = false) : brkC s t o l = 3 := by rw [brkC, if_pos h]
theorem brkC_many {s t o : Int} {l : List Mk} (h : brkHB s t o = true) (h2 : 60 < l.length) : brkC s t o l = 2 := by rw [brkC, if_neg (by rw [h]; decide), if_pos h2]
theorem brkC_time {s t o : Int} {l : List Mk} (h : brkHB s t o = true) (h2 : ¬ 60 < l.length) (h3 : timesM l = false) : brkC s t o l = 3 := by rw [brkC, if_neg (by rw [h]; decide), if_neg h2, if_pos h3]
theorem brkC_form {s t o : Int} {l : List Mk} (h : brkHB s t o = true) (h2 : ¬ 60 < l.length) (h3 : timesM l = true) (h4 : sortedM l = false) : brkC s t o l = 1 := by rw [brkC, if_neg (by rw [h]; decide), if_neg h2, if_neg (by rw [h3]; decide), if_pos h4]
theorem brkC_state {s t o : Int} {l : List Mk} (h : brkHB s t o = true) (h2 : ¬ 60 < l.length) (h3 : timesM l = true) (h4 : sortedM l = true) (h5 : stateB s o l.length = false) : brkC s t o l = 8 := by rw [brkC, if_neg (by rw [h]; decide), if_neg h2, if_neg (by rw [h3]; decide), if_neg (by rw [h4]; decide), if_pos h5]
theorem brkC_ok {s t o : Int} {l : List Mk} (h : brkHB s t o = true) (h2 : ¬ 60 < l.length) (h3 : timesM l = true) (h4 : sortedM l = true) (h5 : stateB s o l.length = true) : brkC s t o l = 0 := by rw [brkC, if_neg (by rw [h]; decide), if_neg h2, if_neg (by rw [h3]; decide), if_neg (by rw [h4]; decide), if_neg (by rw [h5]; decide)]
theorem brkC_of {s t o : Int} {l : List Mk} (h : brkC s t o l = 0) : brkHB s t o = true ∧ l.length ≤ 60 ∧ timesM l = true ∧ sortedM l = true ∧ stateB s o l.length = true := by
  unfold brkC at h
  split at h
  · cases h
  · split at h
    · cases h
    · split at h
      · cases h
      · split at h
        · cases h
        · split at h
          · cases h
          · rename_i h1 h2 h3 h4 h5
            exact ⟨by simpa using h1, by omega, by simpa using h3, by simpa using h4, by simpa using h5⟩
def badM (l : List Mk) : Nat := (l.filter fun r => !r.gd).length
theorem badM_le (l : List Mk) : badM l ≤ l.length := List.length_filter_le _ _
theorem badM_take {l : List Mk} {k : Nat} {r : Mk} (hr : l[k]? = some r) : badM (l.take (k + 1)) = badM (l.take k) + (if r.gd = true then 0 else 1) := by
  obtain ⟨hk, rfl⟩ := List.getElem?_eq_some_iff.1 hr
  rw [List.take_succ_eq_append_getElem hk, badM, badM, List.filter_append, List.length_append]
  cases h : l[k].gd <;> simp [List.filter, h]
end Go.Proofs.Ytmgidcigihpbeaa
/-
  The model's BreakerFault.
-/
namespace Go.Proofs.Ytmgidcigihpbeaa
open Go.ChangeShapes Go.WideShapes Go.ChangeAt Go.RowKit Go.Sort
set_option maxRecDepth 100000 in
set_option maxHeartbeats 8000000 in
theorem specBrk_any (s t o : Int) (a : Option Addr) (cap : Nat) (l : List Mk) (w : World) (hi : MkIn w a l) :
    Calls Try.prog 29 #[.agg #[.int .i64 s, .int .i64 t, .int .i64 o, .slice a l.length cap]] w fun r w' => r = .returned (.int .i64 (brkC s t o l)) ∧ Below w.heap.size w w' := by
  have HT : Hid (∀ x lo hi w, Calls Try.prog 52 #[.int .i64 x, .int .i64 lo, .int .i64 hi] w fun r w' => r = .returned (.bool (inW lo hi x)) ∧ w' = w) := l1In_w
  have HU : Hid (∀ x w, Calls Try.prog 46 #[.int .i64 x] w fun r w' => r = .returned (.bool (timeB x)) ∧ w' = w) := l1Time_all
  have HI : Hid (MkIn w a l) := hi
  have HS : Hid (S4 (w.alloc (.cells #[.int .i64 s, .int .i64 t, .int .i64 o, .slice a l.length cap] 51)) w.heap.size (.int .i64 s) (.int .i64 t) (.int .i64 o) (.slice a l.length cap)) := S4.new _ _ _ _ _ _
  have HB : Hid (Below w.heap.size w (w.alloc (.cells #[.int .i64 s, .int .i64 t, .int .i64 o, .slice a l.length cap] 51))) := (Below.refl _ _).alloc (Nat.le_refl _) _
  clear hi
  cases h0 : inW 0 2 s
  · rw [brkC_head (by simp [brkHB, h0])]
    clear HI HS
    generalize l.length = n at *
    go_enter Try.func29, Try.ntmps29
    go_wp2_with fail
    refine (HT.out s 0 2 _).mono ?_
    rintro r w1 ⟨rfl, rfl⟩
    rw [h0]
    go_wp2_with fail
    go_ret
    exact ⟨rfl, HB.out⟩
  cases h1 : timeB t
  · rw [brkC_head (by simp [brkHB, h1])]
    clear HI HS
    generalize l.length = n at *
    go_enter Try.func29, Try.ntmps29
    go_wp2_with fail
    refine (HT.out s 0 2 _).mono ?_
    rintro r w1 ⟨rfl, rfl⟩
    rw [h0]
    go_wp2_with fail
    refine (HU.out t _).mono ?_
    rintro r w1 ⟨rfl, rfl⟩
    rw [h1]
    go_wp2_with fail
    go_ret
    exact ⟨rfl, HB.out⟩
  cases h2 : inW 0 5 o
  · rw [brkC_head (by simp [brkHB, h2])]
    clear HI HS
    generalize l.length = n at *
    go_enter Try.func29, Try.ntmps29
    go_wp2_with fail
    refine (HT.out s 0 2 _).mono ?_
    rintro r w1 ⟨rfl, rfl⟩
    rw [h0]
    go_wp2_with fail
    refine (HU.out t _).mono ?_
    rintro r w1 ⟨rfl, rfl⟩
    rw [h1]
    go_wp2_with fail
    refine (HT.out o 0 5 _).mono ?_
    rintro r w1 ⟨rfl, rfl⟩
    rw [h2]
    go_wp2_with fail
    go_ret
    exact ⟨rfl, HB.out⟩
  have hH : brkHB s t o = true := by simp [brkHB, h0, h1, h2]
  by_cases hm : 60 < l.length
  · rw [brkC_many hH hm]
    clear HI HS
    have hm' : (60 : Int) < (l.length : Int) := by omega
    generalize l.length = n at *
    go_enter Try.func29, Try.ntmps29
    go_wp2_with fail
    refine (HT.out s 0 2 _).mono ?_
    rintro r w1 ⟨rfl, rfl⟩
    rw [h0]
    go_wp2_with fail
    refine (HU.out t _).mono ?_
    rintro r w1 ⟨rfl, rfl⟩
    rw [h1]
    go_wp2_with fail
    refine (HT.out o 0 5 _).mono ?_
    rintro r w1 ⟨rfl, rfl⟩
    rw [h2]
    go_wp2_with fail
    go_ret
    exact ⟨rfl, HB.out⟩
  have HC : Hid (Hid (∀ c, brkC s t o l = c → brkC s t o l = c)) := fun _ h => h
  have HTM : Hid (timesM l = false → brkC s t o l = 3) := fun h => brkC_time hH hm h
  have HSM : Hid (timesM l = true → sortedM l = false → brkC s t o l = 1) := fun h h2 => brkC_form hH hm h h2
  have HST : Hid (timesM l = true → sortedM l = true → stateB s o l.length = false → brkC s t o l = 8) := fun h h2 h3 => brkC_state hH hm h h2 h3
  have HOK : Hid (timesM l = true → sortedM l = true → stateB s o l.length = true → brkC s t o l = 0) := fun h h2 h3 => brkC_ok hH hm h h2 h3
  have hm' : ¬ (60 : Int) < (l.length : Int) := by omega
  clear hm hH
  generalize hn : l.length = n at *
  have HN : Hid (l.length = n) := hn
  clear hn HC
  generalize brkC s t o l = c at *
  go_enter Try.func29, Try.ntmps29
  go_wp2_with fail
  refine (HT.out s 0 2 _).mono ?_
  rintro r w1 ⟨rfl, rfl⟩
  rw [h0]
  go_wp2_with fail
  refine (HU.out t _).mono ?_
  rintro r w1 ⟨rfl, rfl⟩
  rw [h1]
  go_wp2_with fail
  refine (HT.out o 0 5 _).mono ?_
  rintro r w1 ⟨rfl, rfl⟩
  rw [h2]
  go_wp2_with fail
  go_loopw [3] (fun i wr => ∃ k : Nat, k ≤ n ∧ i = .int .i64 k ∧ (∀ (j : Nat) x, j < k → l[j]? = some x → timeB x.tm = true) ∧ S4 wr w.heap.size (.int .i64 s) (.int .i64 t) (.int .i64 o) (.slice a n cap) ∧ Below w.heap.size w wr) (fun i _ => n - (intOf i).toNat)
  case atStart => exact ⟨0, Nat.zero_le _, rfl, fun j x h => by omega, HS.out, HB.out⟩
  case round =>
    obtain ⟨k, hk, rfl, ht, hS, hb⟩ := hrel
    have HTT : Hid (∀ (j : Nat) x, j < k → l[j]? = some x → timeB x.tm = true) := ht
    have HS2 : Hid (S4 wr w.heap.size (.int .i64 s) (.int .i64 t) (.int .i64 o) (.slice a n cap)) := hS
    obtain ⟨c0, c1, c2, c3, fr, _⟩ := hS
    clear ht HS HB
    by_cases hlt : k < n
    · obtain ⟨r, hr⟩ : ∃ r, l[k]? = some r := ⟨l[k]'(by have := HN.out; omega), List.getElem?_eq_getElem _⟩
      rcases (HI.out.keep hb) with h | ⟨b, off, rfl, hat⟩
      · subst h; simp at hr
      obtain ⟨p0, p1⟩ := hat k r hr
      have g : (k : Int) < n := by omega
      cases hx : timeB r.tm
      · have HE : Hid (c = 3) := HTM.out (timesM_no hr hx)
        clear hat hr HTM HSM HST HOK HI
        generalize r.tm = rt at *
        go_wp2_with fail
        refine (HU.out _ _).mono ?_
        rintro e w2 ⟨rfl, rfl⟩
        rw [hx]
        go_wp2_with fail
        go_ret
        exact ⟨ret_int HE.out.symm, hb⟩
      · have HT3 : Hid (∀ (j : Nat) x, j < k + 1 → l[j]? = some x → timeB x.tm = true) := by
          intro j x hj hjx
          by_cases e : j = k
          · subst e; rw [hr] at hjx; obtain rfl := Option.some.inj hjx; exact hx
          · exact HTT.out j x (by omega) hjx
        clear hat hr HTT HI
        generalize r.tm = rt at *
        go_wp2_with fail
        refine (HU.out _ _).mono ?_
        rintro e w2 ⟨rfl, rfl⟩
        rw [hx]
        go_wp2_with fail
        go_roundw
        case rel => exact ⟨k + 1, by omega, by go_num, HT3.out, HS2.out, hb⟩
        case measure => simp [intOf]; omega
    · have hTM : timesM l = true := (timesM_iff l).2 fun i x hx => HTT.out i x (by have := (List.getElem?_eq_some_iff.1 hx).1; have := HN.out; omega) hx
      have HSM2 : Hid (sortedM l = false → c = 1) := HSM.out hTM
      have HST2 : Hid (sortedM l = true → stateB s o n = false → c = 8) := HST.out hTM
      have HOK2 : Hid (sortedM l = true → stateB s o n = true → c = 0) := HOK.out hTM
      clear hTM HTT HTM HSM HST HOK
      go_wp2_with fail
      have HB3 : Hid (Below w.heap.size w wr) := hb
      clear hb c0 c1 c2 c3 fr
      go_loopw [4] (fun i wr => ∃ k : Nat, i = .int .i64 (k + 1 : Nat) ∧ k ≤ n ∧ (∀ (j : Nat) x y, j < k → l[j]? = some x → l[j + 1]? = some y → x.tm ≤ y.tm) ∧ S4 wr w.heap.size (.int .i64 s) (.int .i64 t) (.int .i64 o) (.slice a n cap) ∧ Below w.heap.size w wr) (fun i _ => n + 1 - (intOf i).toNat)
      case atStart => exact ⟨0, rfl, by omega, fun j x y h => by omega, HS2.out, HB3.out⟩
      case round =>
        obtain ⟨k, rfl, hk2, ht, hS, hb⟩ := hrel
        clear HS2 HB3
        have HTT : Hid (∀ (j : Nat) x y, j < k → l[j]? = some x → l[j + 1]? = some y → x.tm ≤ y.tm) := ht
        have HS2 : Hid (S4 wr w.heap.size (.int .i64 s) (.int .i64 t) (.int .i64 o) (.slice a n cap)) := hS
        obtain ⟨c0, c1, c2, c3, fr, lt0⟩ := hS
        clear ht
        by_cases hlt : k + 1 < n
        · obtain ⟨x, hx⟩ : ∃ r, l[k]? = some r := ⟨l[k]'(by have := HN.out; omega), List.getElem?_eq_getElem _⟩
          obtain ⟨y, hy⟩ : ∃ r, l[k + 1]? = some r := ⟨l[k + 1]'(by have := HN.out; omega), List.getElem?_eq_getElem _⟩
          rcases (HI.out.keep hb) with h | ⟨b, off, rfl, hat⟩
          · subst h; simp at hx
          obtain ⟨p0, _⟩ := hat k x hx
          obtain ⟨q0, _⟩ := hat (k + 1) y hy
          have P0 := cell_regrown p0
          have Q0 := cell_regrown q0
          have C3 := cell_regrown c3
          have g0 : (0 : Int) ≤ k := by omega
          have g : ((k + 1 : Nat) : Int) < n := by omega
          have g1 : (0 : Int) ≤ ((k + 1 : Nat) : Int) := by omega
          have g2 : IntKind.i64.wrap (((k + 1 : Nat) : Int) - 1) = (k : Int) := by rw [IntKind.wrap_i64]; omega
          have g3 : (((k + 1 : Nat) : Int) - 1) = (k : Int) := by omega
          have g4 : (k : Int) < n := by omega
          by_cases hxy : y.tm < x.tm
          · have HE : Hid (c = 1) := HSM2.out (sortedM_no hx hy hxy)
            clear hat hx hy p0 q0 HTT HSM2 HST2 HOK2 HI
            generalize x.tm = xt at *
            generalize y.tm = yt at *
            go_wp2_with fail
            refine wp_region_quiet_below (by kernel_rfl) (by kernel_rfl) ?_
            repeat (go_big_quiet_step (fail))
            refine wpQuiet_nil ?_
            intro w2 hw2
            have hbb : Below w.heap.size w w2 := by
              obtain ⟨⟨d, os⟩, rfl⟩ := hw2
              exact hb.trans ((below_regrown wr d os).mono hb.size)
            clear P0 Q0 C3 hw2 hb c0 c1 c2 c3 fr
            go_wp2_with fail
            go_ret
            exact ⟨ret_int HE.out.symm, hbb⟩
          · have HT3 : Hid (∀ (j : Nat) x y, j < k + 1 → l[j]? = some x → l[j + 1]? = some y → x.tm ≤ y.tm) := by
              intro j u v hj hju hjv
              by_cases e : j = k
              · subst e
                rw [hx] at hju; rw [hy] at hjv
                obtain rfl := Option.some.inj hju
                obtain rfl := Option.some.inj hjv
                omega
              · exact HTT.out j u v (by omega) hju hjv
            clear hat hx hy p0 q0 HTT HI
            generalize x.tm = xt at *
            generalize y.tm = yt at *
            go_wp2_with fail
            refine wp_region_quiet_below (by kernel_rfl) (by kernel_rfl) ?_
            repeat (go_big_quiet_step (fail))
            refine wpQuiet_nil ?_
            intro w2 hw2
            have hbb : Below w.heap.size w w2 ∧ S4 w2 w.heap.size (.int .i64 s) (.int .i64 t) (.int .i64 o) (.slice (some ⟨b, off, none⟩) n cap) := by
              obtain ⟨⟨d, os⟩, rfl⟩ := hw2
              exact ⟨hb.trans ((below_regrown wr d os).mono hb.size), HS2.out.keep (below_regrown wr d os)⟩
            have HBB : Hid (Below w.heap.size w w2 ∧ S4 w2 w.heap.size (.int .i64 s) (.int .i64 t) (.int .i64 o) (.slice (some ⟨b, off, none⟩) n cap)) := hbb
            clear P0 Q0 C3 hw2 hb c0 c1 c2 c3 fr hbb HS2
            go_wp2_with fail
            go_roundw
            case rel => exact ⟨k + 1, by go_num, by omega, HT3.out, HBB.out.2, HBB.out.1⟩
            case measure => simp [intOf]; omega
        · have hSM : sortedM l = true := (sortedM_iff l).2 fun i x y hx hy => HTT.out i x y (by have := (List.getElem?_eq_some_iff.1 hy).1; have := HN.out; omega) hx hy
          have HST3 : Hid (stateB s o n = false → c = 8) := HST2.out hSM
          have HOK3 : Hid (stateB s o n = true → c = 0) := HOK2.out hSM
          clear hSM HTT HSM2 HST2 HOK2 HS2 HI HN
          have g : ¬ ((k + 1 : Nat) : Int) < n := by omega
          have gn : decide ((0 : Int) < (n : Int)) = !decide (n = 0) := by by_cases e : n = 0 <;> simp [e] <;> omega
          by_cases e0 : s = 0
          · subst e0
            by_cases e1 : o = 0
            · subst e1
              have HE : Hid (c = 0) := HOK3.out (by simp [stateB])
              clear HOK3 HST3
              go_wp2_with fail
              go_ret
              exact ⟨ret_int HE.out.symm, hb⟩
            · have HE : Hid (c = 8) := HST3.out (by simp [stateB, e1])
              have n1 : (o != 0) = true := by simpa using e1
              clear HOK3 HST3
              go_wp2_with fail
              go_ret
              exact ⟨ret_int HE.out.symm, hb⟩
          · have n0 : (s != 0) = true := by simpa using e0
            by_cases en : n = 0
            · subst en
              by_cases e2 : s = 2
              · subst e2
                have HE : Hid (c = 0) := HOK3.out (by simp [stateB])
                clear HOK3 HST3
                go_wp2_with fail
                go_ret
                exact ⟨ret_int HE.out.symm, hb⟩
              · have n2 : (s != 2) = true := by simpa using e2
                by_cases e1 : o = 0
                · subst e1
                  have HE : Hid (c = 0) := HOK3.out (by simp [stateB])
                  clear HOK3 HST3
                  go_wp2_with fail
                  go_ret
                  exact ⟨ret_int HE.out.symm, hb⟩
                · have HE : Hid (c = 8) := HST3.out (by simp [stateB, e1, e2])
                  have n1 : (o != 0) = true := by simpa using e1
                  clear HOK3 HST3
                  go_wp2_with fail
                  go_ret
                  exact ⟨ret_int HE.out.symm, hb⟩
            · have HE : Hid (c = 8) := HST3.out (by simp [stateB, en, e0])
              have gp : (0 : Int) < (n : Int) := by omega
              have gp2 : decide ((0 : Int) < (n : Int)) = true := by simpa using gp
              clear HOK3 HST3
              go_wp2_with fail
              go_ret
              exact ⟨ret_int HE.out.symm, hb⟩
end Go.Proofs.Ytmgidcigihpbeaa
/-
  The program's small functions over outcomes: which of them are meant, whether they rise.
-/
namespace Go.Proofs.Ytmgidcigihpbeaa
open Go.ChangeShapes Go.WideShapes Go.ChangeAt Go.RowKit Go.Sort
/-- A function value tells of outcomes whether they are meant, whatever world follows w. -/
structure PredM (w : World) (g : Nat) (lb : Array Value) (p : Mk → Bool) : Prop where
  eg : ∀ args X, (callFunc g args).run Try.prog X = .ok (.enter g args) X
  call : ∀ X, Below w.heap.size w X → ∀ r : Mk, Calls Try.prog g (#[.agg #[.int .i64 r.tm, .bool r.gd]] ++ lb) X fun e X' => e = .returned (.bool (p r)) ∧ Below X.heap.size X X'
theorem PredM.later {w w' : World} {g : Nat} {lb : Array Value} {p : Mk → Bool} (h : PredM w g lb p) (hb : Below w.heap.size w w') : PredM w' g lb p := ⟨h.eg, fun X hX => h.call X (hb.trans (hX.mono hb.size))⟩
def IdxM (p : Mk → Bool) (l : List Mk) (e : Ending) : Prop := (∃ k : Nat, e = .returned (.int .i64 (k : Int)) ∧ k ≤ 1048576 ∧ l.any p = true) ∨ (e = .returned (.int .i64 (-1)) ∧ l.any p = false)
theorem anyM_of {p : Mk → Bool} {l : List Mk} {k : Nat} {r : Mk} (hr : l[k]? = some r) (h : p r = true) : l.any p = true := List.any_eq_true.2 ⟨r, List.mem_of_getElem? hr, h⟩
theorem anyM_no {p : Mk → Bool} {l : List Mk} (h : ∀ (j : Nat) x, l[j]? = some x → p x = false) : l.any p = false := by
  rw [List.any_eq_false]
  intro x hx
  obtain ⟨i, hi⟩ := List.getElem?_of_mem hx
  rw [h i x hi]; decide
set_option maxRecDepth 100000 in
set_option maxHeartbeats 4000000 in
theorem indexMk_any (w : World) (g : Nat) (lb : Array Value) (p : Mk → Bool) (a : Option Addr) (cap : Nat) (l : List Mk) (hl : l.length ≤ 1048576) (hi : MkIn w a l) (PH : PredM w g lb p) :
    Calls Try.prog 90 #[.slice a l.length cap, .func (.func g) #[] lb] w fun e w' => IdxM p l e ∧ Below w.heap.size w w' := by
  have HI : Hid (MkIn w a l) := hi
  have HP : Hid (∀ X, Below w.heap.size w X → ∀ r : Mk, Calls Try.prog g (#[.agg #[.int .i64 r.tm, .bool r.gd]] ++ lb) X fun e X' => e = .returned (.bool (p r)) ∧ Below X.heap.size X X') := PH.call
  have eg := PH.eg
  clear hi PH
  obtain ⟨n, hn⟩ : ∃ n, l.length = n := ⟨_, rfl⟩
  rw [hn] at hl ⊢
  have HN : Hid (l.length = n) := hn
  clear hn
  go_enter Try.func90, Try.ntmps90
  go_wp2_with fail
  go_loopw [8] (fun i wr => ∃ k : Nat, k ≤ n ∧ i = .int .i64 k ∧ (∀ (j : Nat) x, j < k → l[j]? = some x → p x = false) ∧ Below w.heap.size w wr) (fun i _ => n - (intOf i).toNat)
  case atStart => exact ⟨0, Nat.zero_le _, rfl, fun j x h => by omega, Below.refl _ _⟩
  case round =>
    obtain ⟨k, hk, rfl, hA, hb⟩ := hrel
    have HA : Hid (∀ (j : Nat) x, j < k → l[j]? = some x → p x = false) := hA
    clear hA
    by_cases hlt : k < n
    · obtain ⟨r, hr⟩ : ∃ r, l[k]? = some r := ⟨l[k]'(by have := HN.out; omega), List.getElem?_eq_getElem _⟩
      rcases (HI.out.keep hb) with h | ⟨b, off, rfl, hat⟩
      · subst h; simp at hr
      obtain ⟨p0, p1⟩ := hat k r hr
      have CP := HP.out wr hb r
      have gk : (k : Int) < n := by omega
      have gk0 : (0 : Int) ≤ k := by omega
      have HB : Hid (Below w.heap.size w wr) := hb
      cases he : p r
      · rw [he] at CP
        have HF : Hid (∀ (j : Nat) x, j < k + 1 → l[j]? = some x → p x = false) := by
          intro j x hj hjx
          by_cases e : j = k
          · subst e; rw [hr] at hjx; obtain rfl := Option.some.inj hjx; exact he
          · exact HA.out j x (by omega) hjx
        clear hr hat hb HA HI he HP
        generalize r.tm = rt at *
        generalize r.gd = rg at *
        go_wp2_with (go_at_fn g; refine CP.mono ?_; rintro e w2 ⟨rfl, hb2⟩)
        go_roundw
        case rel => exact ⟨k + 1, by omega, by go_num, HF.out, HB.out.trans (hb2.mono HB.out.size)⟩
        case measure => simp [intOf]; omega
      · rw [he] at CP
        have HF : Hid (IdxM p l (.returned (.int .i64 (k : Int)))) := .inl ⟨k, rfl, by omega, anyM_of hr he⟩
        clear hr hat hb HA HI he HP
        generalize r.tm = rt at *
        generalize r.gd = rg at *
        go_wp2_with (go_at_fn g; refine CP.mono ?_; rintro e w2 ⟨rfl, hb2⟩)
        go_ret
        exact ⟨HF.out, HB.out.trans (hb2.mono HB.out.size)⟩
    · have HF : Hid (IdxM p l (.returned (.int .i64 (-1)))) := .inr ⟨rfl, anyM_no fun j x hx => HA.out j x (by have := (List.getElem?_eq_some_iff.1 hx).1; have := HN.out; omega) hx⟩
      have HB : Hid (Below w.heap.size w wr) := hb
      clear HA hb HP HN HI
      go_wp2_with fail
      go_ret
      exact ⟨HF.out, HB.out⟩
set_option maxHeartbeats 400000 in
theorem containsMk_any (w : World) (g : Nat) (lb : Array Value) (p : Mk → Bool) (a : Option Addr) (cap : Nat) (l : List Mk) (hl : l.length ≤ 1048576) (hi : MkIn w a l) (PH : PredM w g lb p) :
    Calls Try.prog 68 #[.slice a l.length cap, .func (.func g) #[] lb] w fun e w' => e = .returned (.bool (l.any p)) ∧ Below w.heap.size w w' := by
  have HC : Hid (Calls Try.prog 90 #[.slice a l.length cap, .func (.func g) #[] lb] w fun e w' => IdxM p l e ∧ Below w.heap.size w w') := indexMk_any w g lb p a cap l hl hi PH
  clear hi PH
  generalize l.length = n at *
  go_enter Try.func68, Try.ntmps68
  go_wp2_with fail
  refine HC.out.mono ?_
  rintro e w1 ⟨hI, hb⟩
  clear HC
  rcases hI with ⟨k, rfl, _, h⟩ | ⟨rfl, h⟩
  · have HH : Hid (l.any p = true) := h
    clear h
    go_wp2_with fail
    go_ret
    exact ⟨by rw [HH.out]; rfl, hb⟩
  · have HH : Hid (l.any p = false) := h
    clear h
    go_wp2_with fail
    go_ret
    exact ⟨by rw [HH.out]; rfl, hb⟩
theorem notTime_any (w : World) : PredM w 69 #[] (fun r => !timeB r.tm) := by
  refine ⟨enters_of Try.func69 (by kernel_rfl) rfl, fun X _ r => ?_⟩
  have HU : Hid (∀ x w, Calls Try.prog 41 #[.int .i64 x] w fun r w' => r = .returned (.bool (timeB x)) ∧ w' = w) := isTime_all
  obtain ⟨rt, rg⟩ := r
  simp only
  generalize hx : timeB rt = x at *
  show Calls Try.prog 69 #[.agg #[.int .i64 rt, .bool rg]] X _
  go_enter Try.func69, Try.ntmps69
  go_wp2_with fail
  refine (HU.out _ _).mono ?_
  rintro e w1 ⟨rfl, rfl⟩
  rw [hx]
  go_wp2_with fail
  go_ret
  exact ⟨rfl, (Below.refl _ _).alloc (Nat.le_refl _) _⟩
theorem later_any (w : World) (K : Nat) (now : Int) (hK : K < w.heap.size) (hc : w.cell? ⟨K, 0, none⟩ = some (.int .i64 now)) : PredM w 88 #[.pointer (some ⟨K, 0, none⟩)] (fun r => decide (now < r.tm)) := by
  refine ⟨enters_of Try.func88 (by kernel_rfl) rfl, fun X hX r => ?_⟩
  have c0 : X.cell? ⟨K, 0, none⟩ = some (.int .i64 now) := by rw [hX.cell (p := ⟨K, 0, none⟩) hK]; exact hc
  have hKX : K < X.heap.size := Nat.lt_of_lt_of_le hK hX.size
  clear hX hc hK
  obtain ⟨rt, rg⟩ := r
  simp only
  show Calls Try.prog 88 #[.agg #[.int .i64 rt, .bool rg], .pointer (some ⟨K, 0, none⟩)] X _
  by_cases c : now < rt
  · have e : decide (now < rt) = true := by simpa using c
    rw [e]
    go_enter Try.func88, Try.ntmps88
    go_wp2
    go_ret
    exact ⟨rfl, (Below.refl _ _).alloc (Nat.le_refl _) _⟩
  · have e : decide (now < rt) = false := by simpa using c
    rw [e]
    go_enter Try.func88, Try.ntmps88
    go_wp2
    go_ret
    exact ⟨rfl, (Below.refl _ _).alloc (Nat.le_refl _) _⟩
def cmpI (x y : Int) : Int := if x < y then -1 else if y < x then 1 else 0
theorem isNaN_all (x : Int) (w : World) : Calls Try.prog 95 #[.int .i64 x] w fun r w' => r = .returned (.bool false) ∧ w' = w := by
  go_enter Try.func95, Try.ntmps95
  go_wp2
  go_ret
  exact ⟨rfl, rfl⟩
set_option maxHeartbeats 400000 in
theorem compare_all (x y : Int) (w : World) : Calls Try.prog 91 #[.int .i64 x, .int .i64 y] w fun r w' => r = .returned (.int .i64 (cmpI x y)) ∧ w' = w := by
  have HN : Hid (∀ x w, Calls Try.prog 95 #[.int .i64 x] w fun r w' => r = .returned (.bool false) ∧ w' = w) := isNaN_all
  by_cases c : x < y
  · have e : cmpI x y = -1 := by rw [cmpI, if_pos c]
    rw [e]
    go_enter Try.func91, Try.ntmps91
    go_wp2_with fail
    refine (HN.out _ _).mono ?_
    rintro r w1 ⟨rfl, rfl⟩
    go_wp2_with fail
    refine (HN.out _ _).mono ?_
    rintro r w1 ⟨rfl, rfl⟩
    go_wp2_with fail
    go_ret
    exact ⟨rfl, rfl⟩
  · by_cases c2 : y < x
    · have e : cmpI x y = 1 := by rw [cmpI, if_neg c, if_pos c2]
      rw [e]
      go_enter Try.func91, Try.ntmps91
      go_wp2_with fail
      refine (HN.out _ _).mono ?_
      rintro r w1 ⟨rfl, rfl⟩
      go_wp2_with fail
      refine (HN.out _ _).mono ?_
      rintro r w1 ⟨rfl, rfl⟩
      go_wp2_with fail
      go_ret
      exact ⟨rfl, rfl⟩
    · have e : cmpI x y = 0 := by rw [cmpI, if_neg c, if_neg c2]
      rw [e]
      go_enter Try.func91, Try.ntmps91
      go_wp2_with fail
      refine (HN.out _ _).mono ?_
      rintro r w1 ⟨rfl, rfl⟩
      go_wp2_with fail
      refine (HN.out _ _).mono ?_
      rintro r w1 ⟨rfl, rfl⟩
      go_wp2_with fail
      go_ret
      exact ⟨rfl, rfl⟩
theorem byTime_any (x y : Mk) (w : World) : Calls Try.prog 71 #[.agg #[.int .i64 x.tm, .bool x.gd], .agg #[.int .i64 y.tm, .bool y.gd]] w fun r w' => r = .returned (.int .i64 (cmpI x.tm y.tm)) ∧ Below w.heap.size w w' := by
  have HC : Hid (∀ x y w, Calls Try.prog 91 #[.int .i64 x, .int .i64 y] w fun r w' => r = .returned (.int .i64 (cmpI x y)) ∧ w' = w) := compare_all
  obtain ⟨xt, xg⟩ := x
  obtain ⟨yt, yg⟩ := y
  simp only
  generalize hx : cmpI xt yt = z at *
  go_enter Try.func71, Try.ntmps71
  go_wp2_with fail
  refine (HC.out _ _ _).mono ?_
  rintro r w1 ⟨rfl, rfl⟩
  rw [hx]
  go_wp2_with fail
  go_ret
  exact ⟨rfl, ((Below.refl _ _).alloc (Nat.le_refl _) _).alloc (by simp) _⟩
set_option maxRecDepth 100000 in
set_option maxHeartbeats 4000000 in
theorem sortedMk_any (w : World) (a : Option Addr) (cap : Nat) (l : List Mk) (hl : l.length ≤ 1048576) (hi : MkIn w a l) :
    Calls Try.prog 70 #[.slice a l.length cap, .func (.func 71) #[] #[]] w fun e w' => e = .returned (.bool (sortedM l)) ∧ Below w.heap.size w w' := by
  have HI : Hid (MkIn w a l) := hi
  clear hi
  obtain ⟨n, hn⟩ : ∃ n, l.length = n := ⟨_, rfl⟩
  rw [hn] at hl ⊢
  have HN : Hid (l.length = n) := hn
  have HSF : Hid (∀ (i : Nat) x y, l[i]? = some x → l[i + 1]? = some y → y.tm < x.tm → sortedM l = false) := fun i x y => sortedM_no
  have HST : Hid ((∀ (i : Nat) x y, l[i]? = some x → l[i + 1]? = some y → x.tm ≤ y.tm) → sortedM l = true) := (sortedM_iff l).2
  clear hn
  generalize sortedM l = sb at *
  go_enter Try.func70, Try.ntmps70
  go_wp2_with fail
  go_loopw [5] (fun i wr => ∃ z : Int, i = .int .i64 z ∧ -1 ≤ z ∧ z < n + 1 ∧ z ≤ n - 1 ∧ (∀ (j : Nat) x y, z ≤ j → l[j]? = some x → l[j + 1]? = some y → x.tm ≤ y.tm) ∧ Below w.heap.size w wr) (fun i _ => (intOf i).toNat)
  case atStart => exact ⟨(n : Int) - 1, by go_num, by omega, by omega, by omega, fun j x y h _ hy => by have := (List.getElem?_eq_some_iff.1 hy).1; have := HN.out; omega, Below.refl _ _⟩
  case round =>
    obtain ⟨z, rfl, hz, _, hzn, hA, hb⟩ := hrel
    have HA : Hid (∀ (j : Nat) x y, z ≤ j → l[j]? = some x → l[j + 1]? = some y → x.tm ≤ y.tm) := hA
    clear hA
    by_cases hlt : 0 < z
    · obtain ⟨k, rfl⟩ : ∃ k : Nat, z = ((k + 1 : Nat) : Int) := ⟨(z - 1).toNat, by omega⟩
      have hk : k + 1 < n := by omega
      clear hz hzn hlt
      obtain ⟨x, hx⟩ : ∃ r, l[k]? = some r := ⟨l[k]'(by have := HN.out; omega), List.getElem?_eq_getElem _⟩
      obtain ⟨y, hy⟩ : ∃ r, l[k + 1]? = some r := ⟨l[k + 1]'(by have := HN.out; omega), List.getElem?_eq_getElem _⟩
      rcases (HI.out.keep hb) with h | ⟨b, off, rfl, hat⟩
      · subst h; simp at hx
      obtain ⟨p0, p1⟩ := hat k x hx
      obtain ⟨q0, q1⟩ := hat (k + 1) y hy
      have P0 := cell_regrown p0
      have P1 := cell_regrown p1
      have Q0 := cell_regrown q0
      have Q1 := cell_regrown q1
      have cE : ∀ d os, Calls Try.prog 71 #[.agg #[.int .i64 y.tm, .bool y.gd], .agg #[.int .i64 x.tm, .bool x.gd]] (grow (redrawn wr d) os) fun e w'' => e = .returned (.int .i64 (cmpI y.tm x.tm)) ∧ ∃ p : Regrown, w'' = grow (redrawn wr p.d) p.os := fun d os => Calls.regrown_of (byTime_any y x _)
      have g0 : (0 : Int) ≤ k := by omega
      have g : ((k + 1 : Nat) : Int) < n := by omega
      have g1 : (0 : Int) ≤ ((k + 1 : Nat) : Int) := by omega
      have g2 : IntKind.i64.wrap (((k + 1 : Nat) : Int) - 1) = (k : Int) := by rw [IntKind.wrap_i64]; omega
      have g3 : (((k + 1 : Nat) : Int) - 1) = (k : Int) := by omega
      have g4 : (k : Int) < n := by omega
      have g5 : (0 : Int) < ((k + 1 : Nat) : Int) := by omega
      by_cases hxy : y.tm < x.tm
      · have HE : Hid (sb = false) := HSF.out k x y hx hy hxy
        have e : cmpI y.tm x.tm = -1 := by rw [cmpI, if_pos hxy]
        rw [e] at cE
        clear hat hx hy p0 q0 p1 q1 HA HI HST HSF e hxy
        generalize x.tm = xt at *
        generalize y.tm = yt at *
        generalize x.gd = xg at *
        generalize y.gd = yg at *
        go_wp2_with fail
        refine wp_region_quiet_below (by kernel_rfl) (by kernel_rfl) ?_
        repeat (go_big_quiet_step ((go_at_call 71; exact cE _ _)))
        refine wpQuiet_nil ?_
        intro w2 hw2
        have hbb : Below w.heap.size w w2 := by
          obtain ⟨⟨d, os⟩, rfl⟩ := hw2
          exact hb.trans ((below_regrown wr d os).mono hb.size)
        clear P0 Q0 P1 Q1 hw2 hb cE
        go_wp2_with fail
        go_ret
        exact ⟨ret_bool HE.out.symm, hbb⟩
      · have HF : Hid (∀ (j : Nat) x y, (k : Int) ≤ j → l[j]? = some x → l[j + 1]? = some y → x.tm ≤ y.tm) := by
          intro j u v hj hju hjv
          by_cases e : j = k
          · subst e
            rw [hx] at hju; rw [hy] at hjv
            obtain rfl := Option.some.inj hju
            obtain rfl := Option.some.inj hjv
            omega
          · exact HA.out j u v (by omega) hju hjv
        obtain ⟨cz, hcz, hc0⟩ : ∃ cz, cmpI y.tm x.tm = cz ∧ 0 ≤ cz := ⟨_, rfl, by rw [cmpI, if_neg hxy]; split <;> omega⟩
        rw [hcz] at cE
        clear hat hx hy p0 q0 p1 q1 HA HI HSF hcz hxy
        generalize x.tm = xt at *
        generalize y.tm = yt at *
        generalize x.gd = xg at *
        generalize y.gd = yg at *
        go_wp2_with fail
        refine wp_region_quiet_below (by kernel_rfl) (by kernel_rfl) ?_
        repeat (go_big_quiet_step ((go_at_call 71; exact cE _ _)))
        refine wpQuiet_nil ?_
        intro w2 hw2
        have hbb : Below w.heap.size w w2 := by
          obtain ⟨⟨d, os⟩, rfl⟩ := hw2
          exact hb.trans ((below_regrown wr d os).mono hb.size)
        clear P0 Q0 P1 Q1 hw2 hb cE
        go_wp2_with fail
        go_roundw
        case rel => exact ⟨(k : Int), by go_num, by omega, by omega, by omega, HF.out, hbb⟩
        case measure => (simp [intOf]) <;> omega
    · have HE : Hid (sb = true) := HST.out fun i x y hx hy => HA.out i x y (by omega) hx hy
      clear HA HST HSF HI HN
      go_wp2_with fail
      go_ret
      exact ⟨ret_bool HE.out.symm, hb⟩
end Go.Proofs.Ytmgidcigihpbeaa
/-
  The program's BreakerFault.
-/
namespace Go.Proofs.Ytmgidcigihpbeaa
open Go.ChangeShapes Go.WideShapes Go.ChangeAt Go.RowKit Go.Sort
theorem anyNotM (l : List Mk) : (l.any fun r => !timeB r.tm) = !timesM l := by
  unfold timesM
  rw [List.not_all_eq_any_not]
set_option maxRecDepth 100000 in
set_option maxHeartbeats 8000000 in
theorem implBrk_any (s t o : Int) (a : Option Addr) (cap : Nat) (l : List Mk) (w : World) (hi : MkIn w a l) :
    Calls Try.prog 28 #[.agg #[.int .i64 s, .int .i64 t, .int .i64 o, .slice a l.length cap]] w fun r w' => r = .returned (.int .i64 (brkC s t o l)) ∧ Below w.heap.size w w' := by
  have HT : Hid (∀ x lo hi w, Calls Try.prog 40 #[.int .i64 x, .int .i64 lo, .int .i64 hi] w fun r w' => r = .returned (.bool (inW lo hi x)) ∧ w' = w) := isWithin_all
  have HU : Hid (∀ x w, Calls Try.prog 41 #[.int .i64 x] w fun r w' => r = .returned (.bool (timeB x)) ∧ w' = w) := isTime_all
  have HI : Hid (MkIn w a l) := hi
  have HS : Hid (S4 (w.alloc (.cells #[.int .i64 s, .int .i64 t, .int .i64 o, .slice a l.length cap] 51)) w.heap.size (.int .i64 s) (.int .i64 t) (.int .i64 o) (.slice a l.length cap)) := S4.new _ _ _ _ _ _
  have HB : Hid (Below w.heap.size w (w.alloc (.cells #[.int .i64 s, .int .i64 t, .int .i64 o, .slice a l.length cap] 51))) := (Below.refl _ _).alloc (Nat.le_refl _) _
  clear hi
  cases h0 : inW 0 2 s
  · rw [brkC_head (by simp [brkHB, h0])]
    clear HI HS
    generalize l.length = n at *
    go_enter Try.func28, Try.ntmps28
    go_wp2_with fail
    refine (HT.out s 0 2 _).mono ?_
    rintro r w1 ⟨rfl, rfl⟩
    rw [h0]
    go_wp2_with fail
    go_ret
    exact ⟨rfl, HB.out⟩
  cases h1 : timeB t
  · rw [brkC_head (by simp [brkHB, h1])]
    clear HI HS
    generalize l.length = n at *
    go_enter Try.func28, Try.ntmps28
    go_wp2_with fail
    refine (HT.out s 0 2 _).mono ?_
    rintro r w1 ⟨rfl, rfl⟩
    rw [h0]
    go_wp2_with fail
    refine (HU.out t _).mono ?_
    rintro r w1 ⟨rfl, rfl⟩
    rw [h1]
    go_wp2_with fail
    go_ret
    exact ⟨rfl, HB.out⟩
  cases h2 : inW 0 5 o
  · rw [brkC_head (by simp [brkHB, h2])]
    clear HI HS
    generalize l.length = n at *
    go_enter Try.func28, Try.ntmps28
    go_wp2_with fail
    refine (HT.out s 0 2 _).mono ?_
    rintro r w1 ⟨rfl, rfl⟩
    rw [h0]
    go_wp2_with fail
    refine (HU.out t _).mono ?_
    rintro r w1 ⟨rfl, rfl⟩
    rw [h1]
    go_wp2_with fail
    refine (HT.out o 0 5 _).mono ?_
    rintro r w1 ⟨rfl, rfl⟩
    rw [h2]
    go_wp2_with fail
    go_ret
    exact ⟨rfl, HB.out⟩
  have hH : brkHB s t o = true := by simp [brkHB, h0, h1, h2]
  by_cases hm : 60 < l.length
  · rw [brkC_many hH hm]
    clear HI HS
    have hm' : (60 : Int) < (l.length : Int) := by omega
    generalize l.length = n at *
    go_enter Try.func28, Try.ntmps28
    go_wp2_with fail
    refine (HT.out s 0 2 _).mono ?_
    rintro r w1 ⟨rfl, rfl⟩
    rw [h0]
    go_wp2_with fail
    refine (HU.out t _).mono ?_
    rintro r w1 ⟨rfl, rfl⟩
    rw [h1]
    go_wp2_with fail
    refine (HT.out o 0 5 _).mono ?_
    rintro r w1 ⟨rfl, rfl⟩
    rw [h2]
    go_wp2_with fail
    go_ret
    exact ⟨rfl, HB.out⟩
  have HTM : Hid (timesM l = false → brkC s t o l = 3) := fun h => brkC_time hH hm h
  have HSM : Hid (timesM l = true → sortedM l = false → brkC s t o l = 1) := fun h h2 => brkC_form hH hm h h2
  have HST : Hid (timesM l = true → sortedM l = true → stateB s o l.length = false → brkC s t o l = 8) := fun h h2 h3 => brkC_state hH hm h h2 h3
  have HOK : Hid (timesM l = true → sortedM l = true → stateB s o l.length = true → brkC s t o l = 0) := fun h h2 h3 => brkC_ok hH hm h h2 h3
  have hm' : ¬ (60 : Int) < (l.length : Int) := by omega
  have HC : Hid (∀ W, MkIn W a l → Calls Try.prog 68 #[.slice a l.length cap, .func (.func 69) #[] #[]] W fun e w' => e = .returned (.bool (!timesM l)) ∧ Below W.heap.size W w') := fun W h => by
    rw [← anyNotM]
    exact containsMk_any W _ _ _ a cap l (by omega) h (notTime_any W)
  have HO : Hid (∀ W, MkIn W a l → Calls Try.prog 70 #[.slice a l.length cap, .func (.func 71) #[] #[]] W fun e w' => e = .returned (.bool (sortedM l)) ∧ Below W.heap.size W w') := fun W h => sortedMk_any W a cap l (by omega) h
  clear hm hH
  generalize l.length = n at *
  generalize brkC s t o l = c at *
  have HI1 : Hid (MkIn (w.alloc (.cells #[.int .i64 s, .int .i64 t, .int .i64 o, .slice a n cap] 51)) a l) := HI.out.keep HB.out
  obtain ⟨c0, c1, c2, c3, fr, _⟩ := HS.out
  go_enter Try.func28, Try.ntmps28
  go_wp2_with fail
  refine (HT.out s 0 2 _).mono ?_
  rintro r w1 ⟨rfl, rfl⟩
  rw [h0]
  go_wp2_with fail
  refine (HU.out t _).mono ?_
  rintro r w1 ⟨rfl, rfl⟩
  rw [h1]
  go_wp2_with fail
  refine (HT.out o 0 5 _).mono ?_
  rintro r w1 ⟨rfl, rfl⟩
  rw [h2]
  go_wp2_with fail
  refine (HC.out _ HI1.out).mono ?_
  rintro e w2 ⟨rfl, hb2⟩
  have HB3 : Hid (Below w.heap.size w w2) := HB.out.trans (hb2.mono HB.out.size)
  have HS3 : Hid (S4 w2 w.heap.size (.int .i64 s) (.int .i64 t) (.int .i64 o) (.slice a n cap)) := HS.out.keep hb2
  clear hb2 HB HI1 HC HS c0 c1 c2 c3 fr
  cases hT : timesM l
  · have HE : Hid (c = 3) := HTM.out hT
    clear HTM HSM HST HOK HS3
    go_wp2_with fail
    go_ret
    exact ⟨ret_int HE.out.symm, HB3.out⟩
  have HSM2 : Hid (sortedM l = false → c = 1) := HSM.out hT
  have HST2 : Hid (sortedM l = true → stateB s o n = false → c = 8) := HST.out hT
  have HOK2 : Hid (sortedM l = true → stateB s o n = true → c = 0) := HOK.out hT
  clear HTM HSM HST HOK hT
  obtain ⟨c0, c1, c2, c3, fr, _⟩ := HS3.out
  go_wp2_with fail
  refine (HO.out _ (HI.out.keep HB3.out)).mono ?_
  rintro e w3 ⟨rfl, hb3⟩
  have HB4 : Hid (Below w.heap.size w w3) := HB3.out.trans (hb3.mono HB3.out.size)
  have HS4 : Hid (S4 w3 w.heap.size (.int .i64 s) (.int .i64 t) (.int .i64 o) (.slice a n cap)) := HS3.out.keep hb3
  clear hb3 HB3 HS3 HO HI c0 c1 c2 c3 fr
  cases hT : sortedM l
  · have HE : Hid (c = 1) := HSM2.out hT
    clear HSM2 HST2 HOK2 HS4
    go_wp2_with fail
    go_ret
    exact ⟨ret_int HE.out.symm, HB4.out⟩
  have HST3 : Hid (stateB s o n = false → c = 8) := HST2.out hT
  have HOK3 : Hid (stateB s o n = true → c = 0) := HOK2.out hT
  clear HSM2 HST2 HOK2 hT
  obtain ⟨c0, c1, c2, c3, fr, _⟩ := HS4.out
  clear HS4
  by_cases en : n = 0
  · subst en
    by_cases e1 : o = 0
    · subst e1
      have HE : Hid (c = 0) := HOK3.out (by simp [stateB])
      clear HOK3 HST3
      go_wp2_with fail
      go_ret
      exact ⟨ret_int HE.out.symm, HB4.out⟩
    · have n1 : (o != 0) = true := by simpa using e1
      by_cases e2 : s = 2
      · subst e2
        have HE : Hid (c = 0) := HOK3.out (by simp [stateB])
        clear HOK3 HST3
        go_wp2_with fail
        go_ret
        exact ⟨ret_int HE.out.symm, HB4.out⟩
      · have n2 : (s != 2) = true := by simpa using e2
        have HE : Hid (c = 8) := HST3.out (by simp [stateB, e1, e2])
        clear HOK3 HST3
        go_wp2_with fail
        go_ret
        exact ⟨ret_int HE.out.symm, HB4.out⟩
  · have gp : (0 : Int) < (n : Int) := by omega
    by_cases e0 : s = 0
    · subst e0
      by_cases e1 : o = 0
      · subst e1
        have HE : Hid (c = 0) := HOK3.out (by simp [stateB])
        clear HOK3 HST3
        go_wp2_with fail
        go_ret
        exact ⟨ret_int HE.out.symm, HB4.out⟩
      · have n1 : (o != 0) = true := by simpa using e1
        have HE : Hid (c = 8) := HST3.out (by simp [stateB, e1])
        clear HOK3 HST3
        go_wp2_with fail
        go_ret
        exact ⟨ret_int HE.out.symm, HB4.out⟩
    · have n0 : (s != 0) = true := by simpa using e0
      have HE : Hid (c = 8) := HST3.out (by simp [stateB, en, e0])
      clear HOK3 HST3
      go_wp2_with fail
      go_ret
      exact ⟨ret_int HE.out.symm, HB4.out⟩
end Go.Proofs.Ytmgidcigihpbeaa
/-
  Bad outcomes, counted; BadIn, on both sides.
-/
namespace Go.Proofs.Ytmgidcigihpbeaa
open Go.ChangeShapes Go.WideShapes Go.ChangeAt Go.RowKit Go.Sort
set_option maxRecDepth 100000 in
set_option maxHeartbeats 4000000 in
theorem specBad_any (w : World) (a : Option Addr) (cap : Nat) (l : List Mk) (hl : l.length ≤ 1048576) (hi : MkIn w a l) :
    Calls Try.prog 76 #[.slice a l.length cap] w fun e w' => e = .returned (.int .i64 (badM l : Int)) ∧ Below w.heap.size w w' := by
  have HI : Hid (MkIn w a l) := hi
  clear hi
  obtain ⟨n, hn⟩ : ∃ n, l.length = n := ⟨_, rfl⟩
  rw [hn] at hl ⊢
  have HN : Hid (l.length = n) := hn
  clear hn
  go_enter Try.func76, Try.ntmps76
  go_wp2_with fail
  go_loopw [3, 4] (fun v i wr => ∃ k m : Nat, k ≤ n ∧ i = .int .i64 k ∧ v = .int .i64 m ∧ m ≤ k ∧ m = badM (l.take k) ∧ Below w.heap.size w wr) (fun _ i _ => n - (intOf i).toNat)
  case atStart => exact ⟨0, 0, Nat.zero_le _, rfl, rfl, Nat.le_refl _, rfl, Below.refl _ _⟩
  case round =>
    obtain ⟨k, m, hk, rfl, rfl, hmk, hm, hb⟩ := hrel
    have HM : Hid (m = badM (l.take k)) := hm
    clear hm
    by_cases hlt : k < n
    · obtain ⟨r, hr⟩ : ∃ r, l[k]? = some r := ⟨l[k]'(by have := HN.out; omega), List.getElem?_eq_getElem _⟩
      rcases (HI.out.keep hb) with h | ⟨b, off, rfl, hat⟩
      · subst h; simp at hr
      obtain ⟨p0, p1⟩ := hat k r hr
      have HF : Hid (badM (l.take (k + 1)) = m + if r.gd = true then 0 else 1) := by show _ = _; rw [badM_take hr, HM.out]
      have gk : (k : Int) < n := by omega
      have HB : Hid (Below w.heap.size w wr) := hb
      clear hr hat hb HM HI
      generalize r.tm = rt at *
      generalize r.gd = rg at *
      cases rg
      · have HF2 : Hid (m + 1 = badM (l.take (k + 1))) := by show _ = _; rw [HF.out]; rfl
        clear HF
        go_wp2_with fail
        go_roundw
        case rel => exact ⟨k + 1, m + 1, by omega, by go_num, by go_num, by omega, HF2.out, HB.out⟩
        case measure => simp [intOf]; omega
      · have HF2 : Hid (m = badM (l.take (k + 1))) := by show _ = _; rw [HF.out]; rfl
        clear HF
        go_wp2_with fail
        go_roundw
        case rel => exact ⟨k + 1, m, by omega, by go_num, rfl, by omega, HF2.out, HB.out⟩
        case measure => simp [intOf]; omega
    · have HE : Hid ((badM l : Int) = (m : Int)) := by
        have e : l.take k = l := List.take_of_length_le (by have := HN.out; omega)
        show _ = _
        rw [HM.out, e]
      clear HM HN HI
      go_wp2_with fail
      go_ret
      exact ⟨ret_int HE.out.symm, hb⟩
set_option maxRecDepth 100000 in
set_option maxHeartbeats 4000000 in
theorem implBad_any (w : World) (a : Option Addr) (cap : Nat) (l : List Mk) (hl : l.length ≤ 1048576) (hi : MkIn w a l) :
    Calls Try.prog 75 #[.slice a l.length cap] w fun e w' => e = .returned (.int .i64 (badM l : Int)) ∧ Below w.heap.size w w' := by
  have HI : Hid (MkIn w a l) := hi
  clear hi
  obtain ⟨n, hn⟩ : ∃ n, l.length = n := ⟨_, rfl⟩
  rw [hn] at hl ⊢
  have HN : Hid (l.length = n) := hn
  clear hn
  go_enter Try.func75, Try.ntmps75
  go_wp2_with fail
  go_loopw [3, 8] (fun v i wr => ∃ k m : Nat, k ≤ n ∧ i = .int .i64 k ∧ v = .int .i64 m ∧ m ≤ k ∧ m = badM (l.take k) ∧ Below w.heap.size w wr) (fun _ i _ => n - (intOf i).toNat)
  case atStart => exact ⟨0, 0, Nat.zero_le _, rfl, rfl, Nat.le_refl _, rfl, Below.refl _ _⟩
  case round =>
    obtain ⟨k, m, hk, rfl, rfl, hmk, hm, hb⟩ := hrel
    have HM : Hid (m = badM (l.take k)) := hm
    clear hm
    by_cases hlt : k < n
    · obtain ⟨r, hr⟩ : ∃ r, l[k]? = some r := ⟨l[k]'(by have := HN.out; omega), List.getElem?_eq_getElem _⟩
      rcases (HI.out.keep hb) with h | ⟨b, off, rfl, hat⟩
      · subst h; simp at hr
      obtain ⟨p0, p1⟩ := hat k r hr
      have HF : Hid (badM (l.take (k + 1)) = m + if r.gd = true then 0 else 1) := by show _ = _; rw [badM_take hr, HM.out]
      have gk : (k : Int) < n := by omega
      have HB : Hid (Below w.heap.size w wr) := hb
      clear hr hat hb HM HI
      generalize r.tm = rt at *
      generalize r.gd = rg at *
      cases rg
      · have HF2 : Hid (m + 1 = badM (l.take (k + 1))) := by show _ = _; rw [HF.out]; rfl
        clear HF
        go_wp2_with fail
        go_roundw
        case rel => exact ⟨k + 1, m + 1, by omega, by go_num, by go_num, by omega, HF2.out, HB.out.trans (((Below.refl _ _).alloc (Nat.le_refl _) _).mono HB.out.size)⟩
        case measure => simp [intOf]; omega
      · have HF2 : Hid (m = badM (l.take (k + 1))) := by show _ = _; rw [HF.out]; rfl
        clear HF
        go_wp2_with fail
        go_roundw
        case rel => exact ⟨k + 1, m, by omega, by go_num, rfl, by omega, HF2.out, HB.out.trans (((Below.refl _ _).alloc (Nat.le_refl _) _).mono HB.out.size)⟩
        case measure => simp [intOf]; omega
    · have HE : Hid ((badM l : Int) = (m : Int)) := by
        have e : l.take k = l := List.take_of_length_le (by have := HN.out; omega)
        show _ = _
        rw [HM.out, e]
      clear HM HN HI
      go_wp2_with fail
      go_ret
      exact ⟨ret_int HE.out.symm, hb⟩
def badA (s t o : Int) (l : List Mk) : Int := if brkC s t o l = 0 then (badM l : Int) else 0
set_option maxHeartbeats 4000000 in
theorem specBadIn_any (s t o : Int) (a : Option Addr) (cap : Nat) (l : List Mk) (hl : l.length ≤ 1048576) (w : World) (hi : MkIn w a l) :
    Calls Try.prog 36 #[.agg #[.int .i64 s, .int .i64 t, .int .i64 o, .slice a l.length cap]] w fun r w' => r = .returned (.agg #[.int .i64 (brkC s t o l), .int .i64 (badA s t o l)]) ∧ Below w.heap.size w w' := by
  have HK : Hid (∀ W, MkIn W a l → Calls Try.prog 29 #[.agg #[.int .i64 s, .int .i64 t, .int .i64 o, .slice a l.length cap]] W fun r w' => r = .returned (.int .i64 (brkC s t o l)) ∧ Below W.heap.size W w') := fun W h => specBrk_any s t o a cap l W h
  have HD : Hid (∀ W, MkIn W a l → Calls Try.prog 76 #[.slice a l.length cap] W fun e w' => e = .returned (.int .i64 (badM l : Int)) ∧ Below W.heap.size W w') := fun W h => specBad_any W a cap l hl h
  have HI : Hid (MkIn w a l) := hi
  have HV0 : Hid (brkC s t o l = 0 → badA s t o l = (badM l : Int)) := fun h => by rw [badA, if_pos h]
  have HV1 : Hid (¬ brkC s t o l = 0 → badA s t o l = 0) := fun h => by rw [badA, if_neg h]
  clear hi hl
  generalize hv : badA s t o l = v at *
  generalize (badM l : Int) = m at *
  generalize hc : brkC s t o l = c at *
  generalize l.length = n at *
  clear hv hc
  have HS : Hid (S4 ((w.alloc (.cells #[.int .i64 s, .int .i64 t, .int .i64 o, .slice a n cap] 51)).alloc (.cells #[.int .i64 0, .int .i64 0] 67)) w.heap.size (.int .i64 s) (.int .i64 t) (.int .i64 o) (.slice a n cap)) := (S4.new _ _ _ _ _ _).keep ((Below.refl _ _).alloc (Nat.le_refl _) _)
  have HR : Hid (IR ((w.alloc (.cells #[.int .i64 s, .int .i64 t, .int .i64 o, .slice a n cap] 51)).alloc (.cells #[.int .i64 0, .int .i64 0] 67)) (w.heap.size + 1) (.int .i64 0) (.int .i64 0)) := by
    have := IR.new (w.alloc (.cells #[.int .i64 s, .int .i64 t, .int .i64 o, .slice a n cap] 51)) (.int .i64 0) (.int .i64 0) 67
    rwa [show (w.alloc (.cells #[.int .i64 s, .int .i64 t, .int .i64 o, .slice a n cap] 51)).heap.size = w.heap.size + 1 by simp] at this
  have HB : Hid (Below w.heap.size w ((w.alloc (.cells #[.int .i64 s, .int .i64 t, .int .i64 o, .slice a n cap] 51)).alloc (.cells #[.int .i64 0, .int .i64 0] 67))) := ((Below.refl _ _).alloc (Nat.le_refl _) _).alloc (by simp) _
  go_enter Try.func36, Try.ntmps36
  go_wp2_with fail
  refine (HK.out _ (HI.out.keep HB.out)).mono ?_
  rintro e w1 ⟨rfl, hb1⟩
  have HB1 : Hid (Below w.heap.size w w1) := HB.out.trans (hb1.mono HB.out.size)
  have HS1 : Hid (S4 w1 w.heap.size (.int .i64 s) (.int .i64 t) (.int .i64 o) (.slice a n cap)) := HS.out.keep hb1
  have HR1 : Hid (IR w1 (w.heap.size + 1) (.int .i64 0) (.int .i64 0)) := HR.out.keep hb1
  clear hb1 HB HS HR HK
  by_cases h0 : c = 0
  · subst h0
    have HE : Hid (v = m) := HV0.out (by trivial)
    obtain ⟨c0, c1, c2, c3, fr, _⟩ := HS1.out
    clear HV0 HV1
    go_wp2_with fail
    refine (HD.out _ (HI.out.keep HB1.out)).mono ?_
    rintro e w2 ⟨rfl, hb2⟩
    have HB2 : Hid (Below w.heap.size w w2) := HB1.out.trans (hb2.mono HB1.out.size)
    obtain ⟨r0, r1, rf, _⟩ := HR1.out.keep hb2
    clear hb2 HB1 HS1 HR1 HD HI c0 c1 c2 c3 fr
    go_wp2_with fail
    exact bodyPost_ret (v := .agg #[.int .i64 0, .int .i64 m]) (by simp [results, Try.results36, go_sem, r0, r1]) rfl ⟨by rw [HE.out], (HB2.out.setCell (Nat.le_succ _) _).setCell (Nat.le_succ _) _⟩
  · have HE : Hid (v = 0) := HV1.out h0
    have n0 : (c != 0) = true := by simpa using h0
    obtain ⟨r0, r1, rf, _⟩ := HR1.out
    clear HV0 HV1 HD HI HS1 HR1
    go_wp2_with fail
    exact bodyPost_ret (v := .agg #[.int .i64 c, .int .i64 0]) (by simp [results, Try.results36, go_sem, r0, r1]) rfl ⟨by rw [HE.out], (HB1.out.setCell (Nat.le_succ _) _).setCell (Nat.le_succ _) _⟩
set_option maxHeartbeats 4000000 in
theorem implBadIn_any (s t o : Int) (a : Option Addr) (cap : Nat) (l : List Mk) (hl : l.length ≤ 1048576) (w : World) (hi : MkIn w a l) :
    Calls Try.prog 35 #[.agg #[.int .i64 s, .int .i64 t, .int .i64 o, .slice a l.length cap]] w fun r w' => r = .returned (.agg #[.int .i64 (brkC s t o l), .int .i64 (badA s t o l)]) ∧ Below w.heap.size w w' := by
  have HK : Hid (∀ W, MkIn W a l → Calls Try.prog 28 #[.agg #[.int .i64 s, .int .i64 t, .int .i64 o, .slice a l.length cap]] W fun r w' => r = .returned (.int .i64 (brkC s t o l)) ∧ Below W.heap.size W w') := fun W h => implBrk_any s t o a cap l W h
  have HD : Hid (∀ W, MkIn W a l → Calls Try.prog 75 #[.slice a l.length cap] W fun e w' => e = .returned (.int .i64 (badM l : Int)) ∧ Below W.heap.size W w') := fun W h => implBad_any W a cap l hl h
  have HI : Hid (MkIn w a l) := hi
  have HV0 : Hid (brkC s t o l = 0 → badA s t o l = (badM l : Int)) := fun h => by rw [badA, if_pos h]
  have HV1 : Hid (¬ brkC s t o l = 0 → badA s t o l = 0) := fun h => by rw [badA, if_neg h]
  clear hi hl
  generalize hv : badA s t o l = v at *
  generalize (badM l : Int) = m at *
  generalize hc : brkC s t o l = c at *
  generalize l.length = n at *
  clear hv hc
  have HS : Hid (S4 ((w.alloc (.cells #[.int .i64 s, .int .i64 t, .int .i64 o, .slice a n cap] 51)).alloc (.cells #[.int .i64 0, .int .i64 0] 67)) w.heap.size (.int .i64 s) (.int .i64 t) (.int .i64 o) (.slice a n cap)) := (S4.new _ _ _ _ _ _).keep ((Below.refl _ _).alloc (Nat.le_refl _) _)
  have HR : Hid (IR ((w.alloc (.cells #[.int .i64 s, .int .i64 t, .int .i64 o, .slice a n cap] 51)).alloc (.cells #[.int .i64 0, .int .i64 0] 67)) (w.heap.size + 1) (.int .i64 0) (.int .i64 0)) := by
    have := IR.new (w.alloc (.cells #[.int .i64 s, .int .i64 t, .int .i64 o, .slice a n cap] 51)) (.int .i64 0) (.int .i64 0) 67
    rwa [show (w.alloc (.cells #[.int .i64 s, .int .i64 t, .int .i64 o, .slice a n cap] 51)).heap.size = w.heap.size + 1 by simp] at this
  have HB : Hid (Below w.heap.size w ((w.alloc (.cells #[.int .i64 s, .int .i64 t, .int .i64 o, .slice a n cap] 51)).alloc (.cells #[.int .i64 0, .int .i64 0] 67))) := ((Below.refl _ _).alloc (Nat.le_refl _) _).alloc (by simp) _
  go_enter Try.func35, Try.ntmps35
  go_wp2_with fail
  refine (HK.out _ (HI.out.keep HB.out)).mono ?_
  rintro e w1 ⟨rfl, hb1⟩
  have HB1 : Hid (Below w.heap.size w w1) := HB.out.trans (hb1.mono HB.out.size)
  have HS1 : Hid (S4 w1 w.heap.size (.int .i64 s) (.int .i64 t) (.int .i64 o) (.slice a n cap)) := HS.out.keep hb1
  have HR1 : Hid (IR w1 (w.heap.size + 1) (.int .i64 0) (.int .i64 0)) := HR.out.keep hb1
  clear hb1 HB HS HR HK
  by_cases h0 : c = 0
  · subst h0
    have HE : Hid (v = m) := HV0.out (by trivial)
    obtain ⟨c0, c1, c2, c3, fr, _⟩ := HS1.out
    clear HV0 HV1
    go_wp2_with fail
    refine (HD.out _ (HI.out.keep HB1.out)).mono ?_
    rintro e w2 ⟨rfl, hb2⟩
    have HB2 : Hid (Below w.heap.size w w2) := HB1.out.trans (hb2.mono HB1.out.size)
    obtain ⟨r0, r1, rf, _⟩ := HR1.out.keep hb2
    clear hb2 HB1 HS1 HR1 HD HI c0 c1 c2 c3 fr
    go_wp2_with fail
    exact bodyPost_ret (v := .agg #[.int .i64 0, .int .i64 m]) (by simp [results, Try.results35, go_sem, r0, r1]) rfl ⟨by rw [HE.out], (HB2.out.setCell (Nat.le_succ _) _).setCell (Nat.le_succ _) _⟩
  · have HE : Hid (v = 0) := HV1.out h0
    have n0 : (c != 0) = true := by simpa using h0
    obtain ⟨r0, r1, rf, _⟩ := HR1.out
    clear HV0 HV1 HD HI HS1 HR1
    go_wp2_with fail
    exact bodyPost_ret (v := .agg #[.int .i64 c, .int .i64 0]) (by simp [results, Try.results35, go_sem, r0, r1]) rfl ⟨by rw [HE.out], (HB1.out.setCell (Nat.le_succ _) _).setCell (Nat.le_succ _) _⟩
end Go.Proofs.Ytmgidcigihpbeaa
/-
  What is asked ahead by all that turn a breaker, on both sides.
-/
namespace Go.Proofs.Ytmgidcigihpbeaa
open Go.ChangeShapes Go.WideShapes Go.ChangeAt Go.RowKit Go.Sort
def laterM (now : Int) (l : List Mk) : Bool := l.any fun r => decide (now < r.tm)
def askK (t : Int) (l : List Mk) (now : Int) : Bool := timeB now && decide (t ≤ now) && !laterM now l
def turnC (s t o : Int) (l : List Mk) (a0 a1 a2 a3 a4 now : Int) : Int := if brkC s t o l = 0 then (if rulesC a0 a1 a2 a3 a4 = 0 then (if askK t l now = true then 0 else 3) else rulesC a0 a1 a2 a3 a4) else brkC s t o l
theorem sortedM_le {l : List Mk} (h : sortedM l = true) : ∀ (d i : Nat) x y, l[i]? = some x → l[i + d]? = some y → x.tm ≤ y.tm
  | 0, i, x, y, hx, hy => by rw [Nat.add_zero, hx] at hy; obtain rfl := Option.some.inj hy; exact Int.le_refl _
  | d + 1, i, x, y, hx, hy => by
    have hlt := (List.getElem?_eq_some_iff.1 hy).1
    obtain ⟨z, hz⟩ : ∃ z, l[i + d]? = some z := ⟨_, List.getElem?_eq_getElem (by omega)⟩
    have h1 := sortedM_le h d i x z hx hz
    have h2 := (sortedM_iff l).1 h (i + d) z y hz (by rw [Nat.add_assoc]; exact hy)
    omega
theorem laterM_last {l : List Mk} {r : Mk} {k : Nat} {now : Int} (h : sortedM l = true) (hk : l.length = k + 1) (hr : l[k]? = some r) : laterM now l = decide (now < r.tm) := by
  unfold laterM
  by_cases c : now < r.tm
  · rw [show decide (now < r.tm) = true by simpa using c]
    exact anyM_of hr (by simpa using c)
  · rw [show decide (now < r.tm) = false by simpa using c]
    refine anyM_no fun j x hx => ?_
    have hlt := (List.getElem?_eq_some_iff.1 hx).1
    obtain ⟨d, hd⟩ : ∃ d, k = j + d := ⟨k - j, by omega⟩
    have := sortedM_le h d j x r hx (by rw [← hd]; exact hr)
    simp; omega
theorem laterM_nil (now : Int) : laterM now [] = false := rfl
set_option maxRecDepth 100000 in
set_option maxHeartbeats 8000000 in
theorem specAsk_any (w : World) (B R : Nat) (s t o : Int) (a : Option Addr) (cap : Nat) (l : List Mk) (a0 a1 a2 a3 a4 now : Int) (hB : S4 w B (.int .i64 s) (.int .i64 t) (.int .i64 o) (.slice a l.length cap)) (hR : S5 w R (.int .i64 a0) (.int .i64 a1) (.int .i64 a2) (.int .i64 a3) (.int .i64 a4)) (hi : MkIn w a l) :
    Calls Try.prog 65 #[.pointer (some ⟨B, 0, none⟩), .pointer (some ⟨R, 0, none⟩), .int .i64 now] w fun e w' => e = .returned (.int .i64 (turnC s t o l a0 a1 a2 a3 a4 now)) ∧ Below w.heap.size w w' := by
  have HK : Hid (Calls Try.prog 29 #[.agg #[.int .i64 s, .int .i64 t, .int .i64 o, .slice a l.length cap]] w fun r w' => r = .returned (.int .i64 (brkC s t o l)) ∧ Below w.heap.size w w') := specBrk_any s t o a cap l w hi
  have HR : Hid (∀ W, Calls Try.prog 31 #[.agg #[.int .i64 a0, .int .i64 a1, .int .i64 a2, .int .i64 a3, .int .i64 a4]] W fun r w' => r = .returned (.int .i64 (rulesC a0 a1 a2 a3 a4)) ∧ Below W.heap.size W w') := fun W => specRules_any a0 a1 a2 a3 a4 W
  have HU : Hid (∀ x w, Calls Try.prog 46 #[.int .i64 x] w fun r w' => r = .returned (.bool (timeB x)) ∧ w' = w) := l1Time_all
  have HSB : Hid (S4 w B (.int .i64 s) (.int .i64 t) (.int .i64 o) (.slice a l.length cap)) := hB
  have HSR : Hid (S5 w R (.int .i64 a0) (.int .i64 a1) (.int .i64 a2) (.int .i64 a3) (.int .i64 a4)) := hR
  have HI : Hid (MkIn w a l) := hi
  have H1 : Hid (¬ brkC s t o l = 0 → turnC s t o l a0 a1 a2 a3 a4 now = brkC s t o l) := fun h => by rw [turnC, if_neg h]
  have H2 : Hid (brkC s t o l = 0 → ¬ rulesC a0 a1 a2 a3 a4 = 0 → turnC s t o l a0 a1 a2 a3 a4 now = rulesC a0 a1 a2 a3 a4) := fun h h2 => by rw [turnC, if_pos h, if_neg h2]
  have H3 : Hid (brkC s t o l = 0 → rulesC a0 a1 a2 a3 a4 = 0 → askK t l now = false → turnC s t o l a0 a1 a2 a3 a4 now = 3) := fun h h2 h3 => by rw [turnC, if_pos h, if_pos h2, if_neg (by rw [h3]; decide)]
  have H4 : Hid (brkC s t o l = 0 → rulesC a0 a1 a2 a3 a4 = 0 → askK t l now = true → turnC s t o l a0 a1 a2 a3 a4 now = 0) := fun h h2 h3 => by rw [turnC, if_pos h, if_pos h2, if_pos h3]
  have HO : Hid (brkC s t o l = 0 → l.length ≤ 60 ∧ sortedM l = true) := fun h => ⟨(brkC_of h).2.1, (brkC_of h).2.2.2.1⟩
  obtain ⟨c0, c1, c2, c3, fr, _⟩ := hB
  clear hR hi
  generalize turnC s t o l a0 a1 a2 a3 a4 now = z at *
  generalize brkC s t o l = c at *
  generalize rulesC a0 a1 a2 a3 a4 = d at *
  obtain ⟨n, hn⟩ : ∃ n, l.length = n := ⟨_, rfl⟩
  rw [hn] at HK HSB HO c3
  have HN : Hid (l.length = n) := hn
  clear hn
  go_enter Try.func65, Try.ntmps65
  go_wp2_with fail
  refine HK.out.mono ?_
  rintro e w1 ⟨rfl, hb1⟩
  have HS1 : Hid (Below w.heap.size w w1 ∧ S4 w1 B (.int .i64 s) (.int .i64 t) (.int .i64 o) (.slice a n cap) ∧ S5 w1 R (.int .i64 a0) (.int .i64 a1) (.int .i64 a2) (.int .i64 a3) (.int .i64 a4) ∧ MkIn w1 a l) := ⟨hb1, HSB.out.keep hb1, HSR.out.keep hb1, HI.out.keep hb1⟩
  clear hb1 HSB HSR HI HK c0 c1 c2 c3 fr
  by_cases hc : c = 0
  rotate_left
  · have HE : Hid (z = c) := H1.out hc
    have n0 : (c != 0) = true := by simpa using hc
    clear H1 H2 H3 H4
    go_wp2_with fail
    go_ret
    exact ⟨ret_int HE.out.symm, HS1.out.1⟩
  subst hc
  have H22 : Hid (¬ d = 0 → z = d) := H2.out (by trivial)
  have H32 : Hid (d = 0 → askK t l now = false → z = 3) := H3.out (by trivial)
  have H42 : Hid (d = 0 → askK t l now = true → z = 0) := H4.out (by trivial)
  have HO2 : Hid (n ≤ 60 ∧ sortedM l = true) := HO.out (by trivial)
  clear H1 H2 H3 H4 HO
  obtain ⟨c0, c1, c2, c3, c4, fr, _⟩ := HS1.out.2.2.1
  go_wp2_with fail
  refine (HR.out _).mono ?_
  rintro e w2 ⟨rfl, hb2⟩
  have HS2 : Hid (Below w.heap.size w w2 ∧ S4 w2 B (.int .i64 s) (.int .i64 t) (.int .i64 o) (.slice a n cap) ∧ MkIn w2 a l) := ⟨HS1.out.1.trans (hb2.mono HS1.out.1.size), HS1.out.2.1.keep hb2, HS1.out.2.2.2.keep hb2⟩
  clear hb2 HS1 HR c0 c1 c2 c3 c4 fr
  by_cases hd : d = 0
  rotate_left
  · have HE : Hid (z = d) := H22.out hd
    have n0 : (d != 0) = true := by simpa using hd
    clear H22 H32 H42
    go_wp2_with fail
    go_ret
    exact ⟨ret_int HE.out.symm, HS2.out.1⟩
  subst hd
  have H33 : Hid (askK t l now = false → z = 3) := H32.out (by trivial)
  have H43 : Hid (askK t l now = true → z = 0) := H42.out (by trivial)
  clear H22 H32 H42
  obtain ⟨c0, c1, c2, c3, fr, _⟩ := HS2.out.2.1
  cases hT : timeB now
  · have HE : Hid (z = 3) := H33.out (by simp [askK, hT])
    clear H33 H43
    go_wp2_with fail
    refine (HU.out _ _).mono ?_
    rintro e w3 ⟨rfl, rfl⟩
    rw [hT]
    go_wp2_with fail
    go_ret
    exact ⟨ret_int HE.out.symm, HS2.out.1⟩
  by_cases hl : now < t
  · have HE : Hid (z = 3) := H33.out (by simp [askK, hT]; omega)
    clear H33 H43
    go_wp2_with fail
    refine (HU.out _ _).mono ?_
    rintro e w3 ⟨rfl, rfl⟩
    rw [hT]
    go_wp2_with fail
    go_ret
    exact ⟨ret_int HE.out.symm, HS2.out.1⟩
  have HT2 : Hid (timeB now = true ∧ t ≤ now) := ⟨hT, by omega⟩
  by_cases hn : n = 0
  · have HE : Hid (z = 0) := H43.out (by
      have e : l = [] := List.eq_nil_of_length_eq_zero (by rw [HN.out, hn])
      rw [askK, e, laterM_nil, HT2.out.1]; simp; exact HT2.out.2)
    subst hn
    clear H33 H43
    go_wp2_with fail
    refine (HU.out _ _).mono ?_
    rintro e w3 ⟨rfl, rfl⟩
    rw [hT]
    go_wp2_with fail
    go_ret
    exact ⟨ret_int HE.out.symm, HS2.out.1⟩
  obtain ⟨k, rfl⟩ : ∃ k, n = k + 1 := ⟨n - 1, by omega⟩
  obtain ⟨r, hr⟩ : ∃ r, l[k]? = some r := ⟨_, List.getElem?_eq_getElem (by rw [HN.out]; omega)⟩
  have HLL : Hid (laterM now l = decide (now < r.tm)) := laterM_last HO2.out.2 HN.out hr
  have hk60 := HO2.out.1
  rcases HS2.out.2.2 with h | ⟨b, off, rfl, hat⟩
  · rw [h] at hr; simp at hr
  obtain ⟨p0, _⟩ := hat k r hr
  have g0 : (0 : Int) ≤ k := by omega
  have g1 : (0 : Int) < ((k + 1 : Nat) : Int) := by omega
  have g2 : IntKind.i64.wrap (((k + 1 : Nat) : Int) - 1) = (k : Int) := by rw [IntKind.wrap_i64]; omega
  have g3 : (((k + 1 : Nat) : Int) - 1) = (k : Int) := by omega
  have g4 : (k : Int) < ((k + 1 : Nat) : Int) := by omega
  clear hat hr hn
  by_cases hx : now < r.tm
  · have HE : Hid (z = 3) := H33.out (by rw [askK, HLL.out, HT2.out.1]; simp; intro _; omega)
    clear H33 H43 HLL HT2
    generalize r.tm = rt at *
    have gx : decide (now < rt) = true := by simpa using hx
    go_wp2_with fail
    refine (HU.out _ _).mono ?_
    rintro e w3 ⟨rfl, rfl⟩
    rw [hT]
    go_wp2_with fail
    go_ret
    exact ⟨ret_int HE.out.symm, HS2.out.1⟩
  · have HE : Hid (z = 0) := H43.out (by rw [askK, HLL.out, HT2.out.1]; simp; exact ⟨HT2.out.2, by omega⟩)
    clear H33 H43 HLL HT2
    generalize r.tm = rt at *
    have gx : decide (now < rt) = false := by simpa using hx
    go_wp2_with fail
    refine (HU.out _ _).mono ?_
    rintro e w3 ⟨rfl, rfl⟩
    rw [hT]
    go_wp2_with fail
    go_ret
    exact ⟨ret_int HE.out.symm, HS2.out.1⟩
theorem hid11 {p : Prop} (h : p) : Hid p := h
theorem cell_keep10 {w w' : World} {b o : Nat} {v : Value} (h : w.cell? ⟨b, o, none⟩ = some v) (hb : Below w.heap.size w w') : w'.cell? ⟨b, o, none⟩ = some v := by rw [hb.cell (block_lt_of_cell h)]; exact h
set_option maxRecDepth 100000 in
set_option maxHeartbeats 8000000 in
theorem implAsk_any (w : World) (s t o : Int) (a : Option Addr) (cap : Nat) (l : List Mk) (a0 a1 a2 a3 a4 now : Int) (hi : MkIn w a l) :
    Calls Try.prog 62 #[.agg #[.int .i64 s, .int .i64 t, .int .i64 o, .slice a l.length cap], .agg #[.int .i64 a0, .int .i64 a1, .int .i64 a2, .int .i64 a3, .int .i64 a4], .int .i64 now] w fun e w' => e = .returned (.int .i64 (turnC s t o l a0 a1 a2 a3 a4 now)) ∧ Below w.heap.size w w' := by
  obtain ⟨W, hW⟩ : ∃ W, W = ((w.alloc (.cells #[.int .i64 s, .int .i64 t, .int .i64 o, .slice a l.length cap] 51)).alloc (.cells #[.int .i64 a0, .int .i64 a1, .int .i64 a2, .int .i64 a3, .int .i64 a4] 53)).alloc (.cells #[.int .i64 now] 2) := ⟨_, rfl⟩
  have HW : Hid (W = ((w.alloc (.cells #[.int .i64 s, .int .i64 t, .int .i64 o, .slice a l.length cap] 51)).alloc (.cells #[.int .i64 a0, .int .i64 a1, .int .i64 a2, .int .i64 a3, .int .i64 a4] 53)).alloc (.cells #[.int .i64 now] 2)) := hW
  have K0 : Hid (Below w.heap.size w W ∧ S4 W w.heap.size (.int .i64 s) (.int .i64 t) (.int .i64 o) (.slice a l.length cap) ∧ S5 W (w.heap.size + 1) (.int .i64 a0) (.int .i64 a1) (.int .i64 a2) (.int .i64 a3) (.int .i64 a4) ∧ W.cell? ⟨w.heap.size + 2, 0, none⟩ = some (.int .i64 now) ∧ w.heap.size + 2 < W.heap.size) := by
    have h1 := S4.new w (.int .i64 s) (.int .i64 t) (.int .i64 o) (.slice a l.length cap) 51
    obtain ⟨W1, hW1⟩ : ∃ W1, W1 = w.alloc (.cells #[.int .i64 s, .int .i64 t, .int .i64 o, .slice a l.length cap] 51) := ⟨_, rfl⟩
    rw [← hW1] at h1 hW
    have e1 : W1.heap.size = w.heap.size + 1 := by rw [hW1]; simp
    have b1 : Below w.heap.size w W1 := by rw [hW1]; exact (Below.refl _ _).alloc (Nat.le_refl _) _
    have h2 := S5.new W1 (.int .i64 a0) (.int .i64 a1) (.int .i64 a2) (.int .i64 a3) (.int .i64 a4) 53
    obtain ⟨W2, hW2⟩ : ∃ W2, W2 = W1.alloc (.cells #[.int .i64 a0, .int .i64 a1, .int .i64 a2, .int .i64 a3, .int .i64 a4] 53) := ⟨_, rfl⟩
    rw [← hW2] at h2 hW
    have e2 : W2.heap.size = w.heap.size + 2 := by rw [hW2]; simp [e1]
    have b2 : Below W1.heap.size W1 W2 := by rw [hW2]; exact (Below.refl _ _).alloc (Nat.le_refl _) _
    have b3 : Below W2.heap.size W2 W := by rw [hW]; exact (Below.refl _ _).alloc (Nat.le_refl _) _
    rw [e1] at h2
    have b13 := b2.trans (b3.mono b2.size)
    refine ⟨b1.trans (b13.mono b1.size), h1.keep b13, h2.keep b3, ?_, ?_⟩
    · rw [hW, ← e2]; simp
    · rw [hW]; simp; omega
  have HK : Hid (Calls Try.prog 28 #[.agg #[.int .i64 s, .int .i64 t, .int .i64 o, .slice a l.length cap]] W fun r w' => r = .returned (.int .i64 (brkC s t o l)) ∧ Below W.heap.size W w') := implBrk_any s t o a cap l W (hi.keep K0.out.1)
  have HR : Hid (∀ W, Calls Try.prog 30 #[.agg #[.int .i64 a0, .int .i64 a1, .int .i64 a2, .int .i64 a3, .int .i64 a4]] W fun r w' => r = .returned (.int .i64 (rulesC a0 a1 a2 a3 a4)) ∧ Below W.heap.size W w') := fun W => implRules_any a0 a1 a2 a3 a4 W
  have HU : Hid (∀ x w, Calls Try.prog 41 #[.int .i64 x] w fun r w' => r = .returned (.bool (timeB x)) ∧ w' = w) := isTime_all
  have HC : Hid (l.length ≤ 60 → ∀ X, Below w.heap.size w X ∧ S4 X w.heap.size (.int .i64 s) (.int .i64 t) (.int .i64 o) (.slice a l.length cap) ∧ S5 X (w.heap.size + 1) (.int .i64 a0) (.int .i64 a1) (.int .i64 a2) (.int .i64 a3) (.int .i64 a4) ∧ X.cell? ⟨w.heap.size + 2, 0, none⟩ = some (.int .i64 now) ∧ w.heap.size + 2 < X.heap.size → Calls Try.prog 68 #[.slice a l.length cap, .func (.func 88) #[] #[.pointer (some ⟨w.heap.size + 2, 0, none⟩)]] X fun e w' => e = .returned (.bool (laterM now l)) ∧ Below X.heap.size X w') := fun hl X hX => containsMk_any X _ _ _ a cap l (by omega) (hi.keep hX.1) (later_any X (w.heap.size + 2) now hX.2.2.2.2 hX.2.2.2.1)
  have H1 : Hid (¬ brkC s t o l = 0 → turnC s t o l a0 a1 a2 a3 a4 now = brkC s t o l) := fun h => by rw [turnC, if_neg h]
  have H2 : Hid (brkC s t o l = 0 → ¬ rulesC a0 a1 a2 a3 a4 = 0 → turnC s t o l a0 a1 a2 a3 a4 now = rulesC a0 a1 a2 a3 a4) := fun h h2 => by rw [turnC, if_pos h, if_neg h2]
  have H3 : Hid (brkC s t o l = 0 → rulesC a0 a1 a2 a3 a4 = 0 → askK t l now = false → turnC s t o l a0 a1 a2 a3 a4 now = 3) := fun h h2 h3 => by rw [turnC, if_pos h, if_pos h2, if_neg (by rw [h3]; decide)]
  have H4 : Hid (brkC s t o l = 0 → rulesC a0 a1 a2 a3 a4 = 0 → askK t l now = true → turnC s t o l a0 a1 a2 a3 a4 now = 0) := fun h h2 h3 => by rw [turnC, if_pos h, if_pos h2, if_pos h3]
  have HO : Hid (brkC s t o l = 0 → l.length ≤ 60) := fun h => (brkC_of h).2.1
  clear hi hW
  generalize turnC s t o l a0 a1 a2 a3 a4 now = z at *
  generalize brkC s t o l = c at *
  generalize rulesC a0 a1 a2 a3 a4 = d at *
  generalize l.length = n at *
  go_enter Try.func62, Try.ntmps62
  go_wp2_with fail
  rw [← HW.out]
  refine HK.out.mono ?_
  rintro e w1 ⟨rfl, hb1⟩
  have K1 : Hid (Below w.heap.size w w1 ∧ S4 w1 w.heap.size (.int .i64 s) (.int .i64 t) (.int .i64 o) (.slice a n cap) ∧ S5 w1 (w.heap.size + 1) (.int .i64 a0) (.int .i64 a1) (.int .i64 a2) (.int .i64 a3) (.int .i64 a4) ∧ w1.cell? ⟨w.heap.size + 2, 0, none⟩ = some (.int .i64 now) ∧ w.heap.size + 2 < w1.heap.size) := ⟨K0.out.1.trans (hb1.mono K0.out.1.size), K0.out.2.1.keep hb1, K0.out.2.2.1.keep hb1, cell_keep10 K0.out.2.2.2.1 hb1, Nat.lt_of_lt_of_le K0.out.2.2.2.2 hb1.size⟩
  clear hb1 K0 HK HW
  by_cases hc : c = 0
  rotate_left
  · have HE : Hid (z = c) := H1.out hc
    have n0 : (c != 0) = true := by simpa using hc
    clear H1 H2 H3 H4
    go_wp2_with fail
    go_ret
    exact ⟨ret_int HE.out.symm, K1.out.1⟩
  subst hc
  have H22 : Hid (¬ d = 0 → z = d) := H2.out (by trivial)
  have H32 : Hid (d = 0 → askK t l now = false → z = 3) := H3.out (by trivial)
  have H42 : Hid (d = 0 → askK t l now = true → z = 0) := H4.out (by trivial)
  have HC2 := hid11 (HC.out (HO.out (by trivial)))
  clear H1 H2 H3 H4 HO HC
  obtain ⟨c0, c1, c2, c3, c4, fr, _⟩ := K1.out.2.2.1
  go_wp2_with fail
  refine (HR.out _).mono ?_
  rintro e w2 ⟨rfl, hb2⟩
  have K2 : Hid (Below w.heap.size w w2 ∧ S4 w2 w.heap.size (.int .i64 s) (.int .i64 t) (.int .i64 o) (.slice a n cap) ∧ S5 w2 (w.heap.size + 1) (.int .i64 a0) (.int .i64 a1) (.int .i64 a2) (.int .i64 a3) (.int .i64 a4) ∧ w2.cell? ⟨w.heap.size + 2, 0, none⟩ = some (.int .i64 now) ∧ w.heap.size + 2 < w2.heap.size) := ⟨K1.out.1.trans (hb2.mono K1.out.1.size), K1.out.2.1.keep hb2, K1.out.2.2.1.keep hb2, cell_keep10 K1.out.2.2.2.1 hb2, Nat.lt_of_lt_of_le K1.out.2.2.2.2 hb2.size⟩
  clear hb2 K1 HR c0 c1 c2 c3 c4 fr
  by_cases hd : d = 0
  rotate_left
  · have HE : Hid (z = d) := H22.out hd
    have n0 : (d != 0) = true := by simpa using hd
    clear H22 H32 H42
    go_wp2_with fail
    go_ret
    exact ⟨ret_int HE.out.symm, K2.out.1⟩
  subst hd
  have H33 : Hid (askK t l now = false → z = 3) := H32.out (by trivial)
  have H43 : Hid (askK t l now = true → z = 0) := H42.out (by trivial)
  clear H22 H32 H42
  obtain ⟨c0, c1, c2, c3, fr, _⟩ := K2.out.2.1
  have q0 := K2.out.2.2.2.1
  cases hT : timeB now
  · have HE : Hid (z = 3) := H33.out (by simp [askK, hT])
    clear H33 H43
    go_wp2_with fail
    refine (HU.out _ _).mono ?_
    rintro e w3 ⟨rfl, rfl⟩
    rw [hT]
    go_wp2_with fail
    go_ret
    exact ⟨ret_int HE.out.symm, K2.out.1⟩
  by_cases hl : now < t
  · have HE : Hid (z = 3) := H33.out (by simp [askK, hT]; omega)
    clear H33 H43
    go_wp2_with fail
    refine (HU.out _ _).mono ?_
    rintro e w3 ⟨rfl, rfl⟩
    rw [hT]
    go_wp2_with fail
    go_ret
    exact ⟨ret_int HE.out.symm, K2.out.1⟩
  have HT2 : Hid (timeB now = true ∧ t ≤ now) := ⟨hT, by omega⟩
  go_wp2_with fail
  refine (HU.out _ _).mono ?_
  rintro e w3 ⟨rfl, rfl⟩
  rw [hT]
  go_wp2_with fail
  refine (HC2.out _ K2.out).mono ?_
  rintro e w4 ⟨rfl, hb4⟩
  have HB4 : Hid (Below w.heap.size w w4) := K2.out.1.trans (hb4.mono K2.out.1.size)
  clear hb4 K2 c0 c1 c2 c3 fr q0 HC2
  cases hx : laterM now l
  · have HE : Hid (z = 0) := H43.out (by rw [askK, hx, HT2.out.1]; simp; exact HT2.out.2)
    clear H33 H43 HT2
    go_wp2_with fail
    go_ret
    exact ⟨ret_int HE.out.symm, HB4.out⟩
  · have HE : Hid (z = 3) := H33.out (by rw [askK, hx, HT2.out.1]; simp)
    clear H33 H43 HT2
    go_wp2_with fail
    go_ret
    exact ⟨ret_int HE.out.symm, HB4.out⟩
end Go.Proofs.Ytmgidcigihpbeaa
/-
  A world in which one block alone has changed, and new ones have come.
-/
namespace Go.Proofs.Ytmgidcigihpbeaa
open Go.ChangeShapes Go.WideShapes Go.ChangeAt Go.RowKit Go.Sort
theorem gbRefl (g : Option Nat) (w : World) : w.grownBy w g := ⟨rfl, rfl, rfl, Nat.le_refl _, fun _ _ _ => rfl⟩
theorem gbTrans {w w1 w2 : World} {g : Option Nat} (h : w.grownBy w1 g) (k : w1.grownBy w2 g) : w.grownBy w2 g :=
  ⟨k.os.trans h.os, k.tape.trans h.tape, k.output.trans h.output, Nat.le_trans h.size k.size, fun i hi hn => (k.block i (Nat.lt_of_lt_of_le hi h.size) hn).trans (h.block i hi hn)⟩
theorem gbBelow {w w' : World} (g : Option Nat) (h : Below w.heap.size w w') : w.grownBy w' g := ⟨h.os, h.tape, h.output, h.size, fun k hk _ => h.block k hk⟩
theorem gbSet (w : World) (g o : Nat) (u : Value) : w.grownBy (w.setCell ⟨g, o, none⟩ u) (some g) := ⟨rfl, rfl, rfl, by simp [World.setCell], fun k _ hn => Below.heap_setCell _ _ _ _ (fun e => hn (by rw [e]))⟩
theorem gbOne {g : Nat} {w w' : World} (h : OneB g w w') : w.grownBy w' (some g) := ⟨h.os, h.tape, h.output, Nat.le_of_eq h.size.symm, fun k _ hn => h.block k (fun e => hn (by rw [e]))⟩
theorem gbTo {w w' : World} {g B : Nat} (h : w.grownBy w' (some g)) (hB : B ≤ g) (hs : B ≤ w.heap.size) : Below B w w' := ⟨h.os, h.tape, h.output, h.size, fun k hk => h.block k (by omega) (by simp; omega)⟩
theorem gbCell {w w' : World} {g : Nat} (h : w.grownBy w' (some g)) {b : Nat} (o : Nat) (hb : b < w.heap.size) (hn : b ≠ g) : w'.cell? ⟨b, o, none⟩ = w.cell? ⟨b, o, none⟩ := World.cell?_of_block (w := w) (h.block b hb (by simp; exact hn))
theorem gbFrozen {w w' : World} {g : Nat} (h : w.grownBy w' (some g)) {b : Nat} (o : Nat) (hb : b < w.heap.size) (hn : b ≠ g) : w'.frozen? ⟨b, o, none⟩ = w.frozen? ⟨b, o, none⟩ := World.frozen?_of_block (w := w) (h.block b hb (by simp; exact hn))
theorem S4.gb {g : Nat} {w w' : World} {b : Nat} {v0 v1 v2 v3 : Value} (k : S4 w b v0 v1 v2 v3) (h : w.grownBy w' (some g)) (hb : b ≠ g) : S4 w' b v0 v1 v2 v3 :=
  ⟨by rw [gbCell h _ k.lt hb]; exact k.c0, by rw [gbCell h _ k.lt hb]; exact k.c1, by rw [gbCell h _ k.lt hb]; exact k.c2, by rw [gbCell h _ k.lt hb]; exact k.c3, fun o => by rw [gbFrozen h _ k.lt hb]; exact k.fr o, Nat.lt_of_lt_of_le k.lt h.size⟩
theorem S5.gb {g : Nat} {w w' : World} {b : Nat} {v0 v1 v2 v3 v4 : Value} (k : S5 w b v0 v1 v2 v3 v4) (h : w.grownBy w' (some g)) (hb : b ≠ g) : S5 w' b v0 v1 v2 v3 v4 :=
  ⟨by rw [gbCell h _ k.lt hb]; exact k.c0, by rw [gbCell h _ k.lt hb]; exact k.c1, by rw [gbCell h _ k.lt hb]; exact k.c2, by rw [gbCell h _ k.lt hb]; exact k.c3, by rw [gbCell h _ k.lt hb]; exact k.c4, fun o => by rw [gbFrozen h _ k.lt hb]; exact k.fr o, Nat.lt_of_lt_of_le k.lt h.size⟩
theorem MkNew.gb {g : Nat} {w w' : World} {base : Nat} {v : Value} {l : List Mk} (h : MkNew w base v l) (k : w.grownBy w' (some g)) (hne : ∀ G, v.ownBlock = some G → G ≠ g) : MkNew w' base v l := by
  rcases h with h | ⟨G, off, cap, rfl, h1, h2, h3, h4⟩
  · exact .inl h
  · have hn := hne G rfl
    refine .inr ⟨G, off, cap, rfl, h1, Nat.lt_of_lt_of_le h2 k.size, fun i r hr => ?_, fun o => by rw [gbFrozen k _ h2 hn]; exact h4 o⟩
    obtain ⟨p0, p1⟩ := h3 i r hr
    exact ⟨by rw [gbCell k _ h2 hn]; exact p0, by rw [gbCell k _ h2 hn]; exact p1⟩
theorem MkNew.gb2 {g : Nat} {w w' : World} {base : Nat} {v : Value} {l : List Mk} (h : MkNew w base v l) (k : w.grownBy w' (some g)) (hne : g < base) : MkNew w' base v l := by
  rcases h with h | ⟨G, off, cap, rfl, h1, h2, h3, h4⟩
  · exact .inl h
  · exact MkNew.gb (.inr ⟨G, off, cap, rfl, h1, h2, h3, h4⟩) k (fun G' hG => by simp only [Value.ownBlock, Option.some.injEq] at hG; omega)
theorem hid12 {p : Prop} (h : p) : Hid p := h
theorem MkIn.gb {g : Nat} {w w' : World} {a : Option Addr} {l : List Mk} (h : MkIn w a l) (k : w.grownBy w' (some g)) (hne : ∀ A, a = some A → A.block ≠ g) : MkIn w' a l := by
  rcases h with h | ⟨b, off, rfl, h3⟩
  · exact .inl h
  · have hn := hne _ rfl
    refine .inr ⟨b, off, rfl, fun i r hr => ?_⟩
    obtain ⟨p0, p1⟩ := h3 i r hr
    have h2 := block_lt_of_cell p0
    exact ⟨by rw [gbCell k _ h2 hn]; exact p0, by rw [gbCell k _ h2 hn]; exact p1⟩
end Go.Proofs.Ytmgidcigihpbeaa
/-
  Who is allowed, in plain words; cells.
-/
namespace Go.Proofs.Ytmgidcigihpbeaa
open Go.ChangeShapes Go.WideShapes Go.ChangeAt Go.RowKit Go.Sort
structure C6 (w : World) (b : Nat) (v0 v1 v2 v3 v4 v5 : Value) : Prop where
  c0 : w.cell? ⟨b, 0, none⟩ = some v0
  c1 : w.cell? ⟨b, 1, none⟩ = some v1
  c2 : w.cell? ⟨b, 2, none⟩ = some v2
  c3 : w.cell? ⟨b, 3, none⟩ = some v3
  c4 : w.cell? ⟨b, 4, none⟩ = some v4
  c5 : w.cell? ⟨b, 5, none⟩ = some v5
  fr : ∀ o, w.frozen? ⟨b, o, none⟩ = false
  lt : b < w.heap.size
section
variable {w w' : World} {b : Nat} {v0 v1 v2 v3 v4 v5 : Value}
theorem C6.keep (k : C6 w b v0 v1 v2 v3 v4 v5) (hb : Below w.heap.size w w') : C6 w' b v0 v1 v2 v3 v4 v5 :=
  ⟨by rw [hb.cell (p := ⟨b, 0, none⟩) k.lt]; exact k.c0, by rw [hb.cell (p := ⟨b, 1, none⟩) k.lt]; exact k.c1, by rw [hb.cell (p := ⟨b, 2, none⟩) k.lt]; exact k.c2, by rw [hb.cell (p := ⟨b, 3, none⟩) k.lt]; exact k.c3, by rw [hb.cell (p := ⟨b, 4, none⟩) k.lt]; exact k.c4, by rw [hb.cell (p := ⟨b, 5, none⟩) k.lt]; exact k.c5, fun o => by rw [hb.frozen (p := ⟨b, o, none⟩) k.lt]; exact k.fr o, Nat.lt_of_lt_of_le k.lt hb.size⟩
theorem C6.low (k : C6 w b v0 v1 v2 v3 v4 v5) {B : Nat} (hb : Below B w w') (h : b < B) : C6 w' b v0 v1 v2 v3 v4 v5 :=
  ⟨by rw [hb.cell (p := ⟨b, 0, none⟩) h]; exact k.c0, by rw [hb.cell (p := ⟨b, 1, none⟩) h]; exact k.c1, by rw [hb.cell (p := ⟨b, 2, none⟩) h]; exact k.c2, by rw [hb.cell (p := ⟨b, 3, none⟩) h]; exact k.c3, by rw [hb.cell (p := ⟨b, 4, none⟩) h]; exact k.c4, by rw [hb.cell (p := ⟨b, 5, none⟩) h]; exact k.c5, fun o => by rw [hb.frozen (p := ⟨b, o, none⟩) h]; exact k.fr o, Nat.lt_of_lt_of_le k.lt hb.size⟩
theorem C6.gb {g : Nat} (k : C6 w b v0 v1 v2 v3 v4 v5) (h : w.grownBy w' (some g)) (hb : b ≠ g) : C6 w' b v0 v1 v2 v3 v4 v5 :=
  ⟨by rw [gbCell h _ k.lt hb]; exact k.c0, by rw [gbCell h _ k.lt hb]; exact k.c1, by rw [gbCell h _ k.lt hb]; exact k.c2, by rw [gbCell h _ k.lt hb]; exact k.c3, by rw [gbCell h _ k.lt hb]; exact k.c4, by rw [gbCell h _ k.lt hb]; exact k.c5, fun o => by rw [gbFrozen h _ k.lt hb]; exact k.fr o, Nat.lt_of_lt_of_le k.lt h.size⟩
theorem C6.put (k : C6 w b v0 v1 v2 v3 v4 v5) (x0 x1 x2 x3 x4 x5 : Value) : C6 ((((((w.setCell ⟨b, 0, none⟩ x0).setCell ⟨b, 1, none⟩ x1).setCell ⟨b, 2, none⟩ x2).setCell ⟨b, 3, none⟩ x3).setCell ⟨b, 4, none⟩ x4).setCell ⟨b, 5, none⟩ x5) b x0 x1 x2 x3 x4 x5 := by
  have ne : ∀ i j : Nat, i ≠ j → (⟨b, i, none⟩ : Addr) ≠ ⟨b, j, none⟩ := fun i j h e => h (congrArg Addr.off e)
  have g0 : (w).cell? ⟨b, 0, none⟩ = some v0 := by exact k.c0
  have g1 : ((w.setCell ⟨b, 0, none⟩ x0)).cell? ⟨b, 1, none⟩ = some v1 := by rw [World.cell?_setCell_other _ _ _ _ (ne _ _ (by decide))]; exact k.c1
  have g2 : (((w.setCell ⟨b, 0, none⟩ x0).setCell ⟨b, 1, none⟩ x1)).cell? ⟨b, 2, none⟩ = some v2 := by rw [World.cell?_setCell_other _ _ _ _ (ne _ _ (by decide))]; rw [World.cell?_setCell_other _ _ _ _ (ne _ _ (by decide))]; exact k.c2
  have g3 : ((((w.setCell ⟨b, 0, none⟩ x0).setCell ⟨b, 1, none⟩ x1).setCell ⟨b, 2, none⟩ x2)).cell? ⟨b, 3, none⟩ = some v3 := by rw [World.cell?_setCell_other _ _ _ _ (ne _ _ (by decide))]; rw [World.cell?_setCell_other _ _ _ _ (ne _ _ (by decide))]; rw [World.cell?_setCell_other _ _ _ _ (ne _ _ (by decide))]; exact k.c3
  have g4 : (((((w.setCell ⟨b, 0, none⟩ x0).setCell ⟨b, 1, none⟩ x1).setCell ⟨b, 2, none⟩ x2).setCell ⟨b, 3, none⟩ x3)).cell? ⟨b, 4, none⟩ = some v4 := by rw [World.cell?_setCell_other _ _ _ _ (ne _ _ (by decide))]; rw [World.cell?_setCell_other _ _ _ _ (ne _ _ (by decide))]; rw [World.cell?_setCell_other _ _ _ _ (ne _ _ (by decide))]; rw [World.cell?_setCell_other _ _ _ _ (ne _ _ (by decide))]; exact k.c4
  have g5 : ((((((w.setCell ⟨b, 0, none⟩ x0).setCell ⟨b, 1, none⟩ x1).setCell ⟨b, 2, none⟩ x2).setCell ⟨b, 3, none⟩ x3).setCell ⟨b, 4, none⟩ x4)).cell? ⟨b, 5, none⟩ = some v5 := by rw [World.cell?_setCell_other _ _ _ _ (ne _ _ (by decide))]; rw [World.cell?_setCell_other _ _ _ _ (ne _ _ (by decide))]; rw [World.cell?_setCell_other _ _ _ _ (ne _ _ (by decide))]; rw [World.cell?_setCell_other _ _ _ _ (ne _ _ (by decide))]; rw [World.cell?_setCell_other _ _ _ _ (ne _ _ (by decide))]; exact k.c5
  exact ⟨by rw [World.cell?_setCell_other _ _ _ _ (ne _ _ (by decide))]; rw [World.cell?_setCell_other _ _ _ _ (ne _ _ (by decide))]; rw [World.cell?_setCell_other _ _ _ _ (ne _ _ (by decide))]; rw [World.cell?_setCell_other _ _ _ _ (ne _ _ (by decide))]; rw [World.cell?_setCell_other _ _ _ _ (ne _ _ (by decide))]; exact World.cell?_setCell_same _ _ _ g0, by rw [World.cell?_setCell_other _ _ _ _ (ne _ _ (by decide))]; rw [World.cell?_setCell_other _ _ _ _ (ne _ _ (by decide))]; rw [World.cell?_setCell_other _ _ _ _ (ne _ _ (by decide))]; rw [World.cell?_setCell_other _ _ _ _ (ne _ _ (by decide))]; exact World.cell?_setCell_same _ _ _ g1, by rw [World.cell?_setCell_other _ _ _ _ (ne _ _ (by decide))]; rw [World.cell?_setCell_other _ _ _ _ (ne _ _ (by decide))]; rw [World.cell?_setCell_other _ _ _ _ (ne _ _ (by decide))]; exact World.cell?_setCell_same _ _ _ g2, by rw [World.cell?_setCell_other _ _ _ _ (ne _ _ (by decide))]; rw [World.cell?_setCell_other _ _ _ _ (ne _ _ (by decide))]; exact World.cell?_setCell_same _ _ _ g3, by rw [World.cell?_setCell_other _ _ _ _ (ne _ _ (by decide))]; exact World.cell?_setCell_same _ _ _ g4, by exact World.cell?_setCell_same _ _ _ g5, fun o => by rw [World.frozen?_setCell]; rw [World.frozen?_setCell]; rw [World.frozen?_setCell]; rw [World.frozen?_setCell]; rw [World.frozen?_setCell]; rw [World.frozen?_setCell]; exact k.fr o, by simpa using k.lt⟩
theorem C6.new (w : World) (v0 v1 v2 v3 v4 v5 : Value) (t : TypeId) : C6 (w.alloc (.cells #[v0, v1, v2, v3, v4, v5] t)) w.heap.size v0 v1 v2 v3 v4 v5 := ⟨by simp, by simp, by simp, by simp, by simp, by simp, fun o => by simp, by simp⟩
end
structure C5 (w : World) (b : Nat) (v0 v1 v2 v3 v4 : Value) : Prop where
  c0 : w.cell? ⟨b, 0, none⟩ = some v0
  c1 : w.cell? ⟨b, 1, none⟩ = some v1
  c2 : w.cell? ⟨b, 2, none⟩ = some v2
  c3 : w.cell? ⟨b, 3, none⟩ = some v3
  c4 : w.cell? ⟨b, 4, none⟩ = some v4
  fr : ∀ o, w.frozen? ⟨b, o, none⟩ = false
  lt : b < w.heap.size
section
variable {w w' : World} {b : Nat} {v0 v1 v2 v3 v4 : Value}
theorem C5.keep (k : C5 w b v0 v1 v2 v3 v4) (hb : Below w.heap.size w w') : C5 w' b v0 v1 v2 v3 v4 :=
  ⟨by rw [hb.cell (p := ⟨b, 0, none⟩) k.lt]; exact k.c0, by rw [hb.cell (p := ⟨b, 1, none⟩) k.lt]; exact k.c1, by rw [hb.cell (p := ⟨b, 2, none⟩) k.lt]; exact k.c2, by rw [hb.cell (p := ⟨b, 3, none⟩) k.lt]; exact k.c3, by rw [hb.cell (p := ⟨b, 4, none⟩) k.lt]; exact k.c4, fun o => by rw [hb.frozen (p := ⟨b, o, none⟩) k.lt]; exact k.fr o, Nat.lt_of_lt_of_le k.lt hb.size⟩
theorem C5.low (k : C5 w b v0 v1 v2 v3 v4) {B : Nat} (hb : Below B w w') (h : b < B) : C5 w' b v0 v1 v2 v3 v4 :=
  ⟨by rw [hb.cell (p := ⟨b, 0, none⟩) h]; exact k.c0, by rw [hb.cell (p := ⟨b, 1, none⟩) h]; exact k.c1, by rw [hb.cell (p := ⟨b, 2, none⟩) h]; exact k.c2, by rw [hb.cell (p := ⟨b, 3, none⟩) h]; exact k.c3, by rw [hb.cell (p := ⟨b, 4, none⟩) h]; exact k.c4, fun o => by rw [hb.frozen (p := ⟨b, o, none⟩) h]; exact k.fr o, Nat.lt_of_lt_of_le k.lt hb.size⟩
theorem C5.gb {g : Nat} (k : C5 w b v0 v1 v2 v3 v4) (h : w.grownBy w' (some g)) (hb : b ≠ g) : C5 w' b v0 v1 v2 v3 v4 :=
  ⟨by rw [gbCell h _ k.lt hb]; exact k.c0, by rw [gbCell h _ k.lt hb]; exact k.c1, by rw [gbCell h _ k.lt hb]; exact k.c2, by rw [gbCell h _ k.lt hb]; exact k.c3, by rw [gbCell h _ k.lt hb]; exact k.c4, fun o => by rw [gbFrozen h _ k.lt hb]; exact k.fr o, Nat.lt_of_lt_of_le k.lt h.size⟩
theorem C5.put (k : C5 w b v0 v1 v2 v3 v4) (x0 x1 x2 x3 x4 : Value) : C5 (((((w.setCell ⟨b, 0, none⟩ x0).setCell ⟨b, 1, none⟩ x1).setCell ⟨b, 2, none⟩ x2).setCell ⟨b, 3, none⟩ x3).setCell ⟨b, 4, none⟩ x4) b x0 x1 x2 x3 x4 := by
  have ne : ∀ i j : Nat, i ≠ j → (⟨b, i, none⟩ : Addr) ≠ ⟨b, j, none⟩ := fun i j h e => h (congrArg Addr.off e)
  have g0 : (w).cell? ⟨b, 0, none⟩ = some v0 := by exact k.c0
  have g1 : ((w.setCell ⟨b, 0, none⟩ x0)).cell? ⟨b, 1, none⟩ = some v1 := by rw [World.cell?_setCell_other _ _ _ _ (ne _ _ (by decide))]; exact k.c1
  have g2 : (((w.setCell ⟨b, 0, none⟩ x0).setCell ⟨b, 1, none⟩ x1)).cell? ⟨b, 2, none⟩ = some v2 := by rw [World.cell?_setCell_other _ _ _ _ (ne _ _ (by decide))]; rw [World.cell?_setCell_other _ _ _ _ (ne _ _ (by decide))]; exact k.c2
  have g3 : ((((w.setCell ⟨b, 0, none⟩ x0).setCell ⟨b, 1, none⟩ x1).setCell ⟨b, 2, none⟩ x2)).cell? ⟨b, 3, none⟩ = some v3 := by rw [World.cell?_setCell_other _ _ _ _ (ne _ _ (by decide))]; rw [World.cell?_setCell_other _ _ _ _ (ne _ _ (by decide))]; rw [World.cell?_setCell_other _ _ _ _ (ne _ _ (by decide))]; exact k.c3
  have g4 : (((((w.setCell ⟨b, 0, none⟩ x0).setCell ⟨b, 1, none⟩ x1).setCell ⟨b, 2, none⟩ x2).setCell ⟨b, 3, none⟩ x3)).cell? ⟨b, 4, none⟩ = some v4 := by rw [World.cell?_setCell_other _ _ _ _ (ne _ _ (by decide))]; rw [World.cell?_setCell_other _ _ _ _ (ne _ _ (by decide))]; rw [World.cell?_setCell_other _ _ _ _ (ne _ _ (by decide))]; rw [World.cell?_setCell_other _ _ _ _ (ne _ _ (by decide))]; exact k.c4
  exact ⟨by rw [World.cell?_setCell_other _ _ _ _ (ne _ _ (by decide))]; rw [World.cell?_setCell_other _ _ _ _ (ne _ _ (by decide))]; rw [World.cell?_setCell_other _ _ _ _ (ne _ _ (by decide))]; rw [World.cell?_setCell_other _ _ _ _ (ne _ _ (by decide))]; exact World.cell?_setCell_same _ _ _ g0, by rw [World.cell?_setCell_other _ _ _ _ (ne _ _ (by decide))]; rw [World.cell?_setCell_other _ _ _ _ (ne _ _ (by decide))]; rw [World.cell?_setCell_other _ _ _ _ (ne _ _ (by decide))]; exact World.cell?_setCell_same _ _ _ g1, by rw [World.cell?_setCell_other _ _ _ _ (ne _ _ (by decide))]; rw [World.cell?_setCell_other _ _ _ _ (ne _ _ (by decide))]; exact World.cell?_setCell_same _ _ _ g2, by rw [World.cell?_setCell_other _ _ _ _ (ne _ _ (by decide))]; exact World.cell?_setCell_same _ _ _ g3, by exact World.cell?_setCell_same _ _ _ g4, fun o => by rw [World.frozen?_setCell]; rw [World.frozen?_setCell]; rw [World.frozen?_setCell]; rw [World.frozen?_setCell]; rw [World.frozen?_setCell]; exact k.fr o, by simpa using k.lt⟩
theorem C5.new (w : World) (v0 v1 v2 v3 v4 : Value) (t : TypeId) : C5 (w.alloc (.cells #[v0, v1, v2, v3, v4] t)) w.heap.size v0 v1 v2 v3 v4 := ⟨by simp, by simp, by simp, by simp, by simp, fun o => by simp, by simp⟩
end
theorem S4.low {w w' : World} {b : Nat} {v0 v1 v2 v3 : Value} (k : S4 w b v0 v1 v2 v3) {B : Nat} (hb : Below B w w') (h : b < B) : S4 w' b v0 v1 v2 v3 :=
  ⟨by rw [hb.cell (p := ⟨b, 0, none⟩) h]; exact k.c0, by rw [hb.cell (p := ⟨b, 1, none⟩) h]; exact k.c1, by rw [hb.cell (p := ⟨b, 2, none⟩) h]; exact k.c2, by rw [hb.cell (p := ⟨b, 3, none⟩) h]; exact k.c3, fun o => by rw [hb.frozen (p := ⟨b, o, none⟩) h]; exact k.fr o, Nat.lt_of_lt_of_le k.lt hb.size⟩
theorem S5.low {w w' : World} {b : Nat} {v0 v1 v2 v3 v4 : Value} (k : S5 w b v0 v1 v2 v3 v4) {B : Nat} (hb : Below B w w') (h : b < B) : S5 w' b v0 v1 v2 v3 v4 :=
  ⟨by rw [hb.cell (p := ⟨b, 0, none⟩) h]; exact k.c0, by rw [hb.cell (p := ⟨b, 1, none⟩) h]; exact k.c1, by rw [hb.cell (p := ⟨b, 2, none⟩) h]; exact k.c2, by rw [hb.cell (p := ⟨b, 3, none⟩) h]; exact k.c3, by rw [hb.cell (p := ⟨b, 4, none⟩) h]; exact k.c4, fun o => by rw [hb.frozen (p := ⟨b, o, none⟩) h]; exact k.fr o, Nat.lt_of_lt_of_le k.lt hb.size⟩
structure Bk where
  s : Int
  t : Int
  o : Int
  l : List Mk
def alB (s t o a3 a4 now : Int) : Bool := if s = 0 then true else if s = 1 then !decide (now - t < a3) else !decide (a4 ≤ o)
def alS (s t o a3 a4 now : Int) : Int := if s = 1 ∧ alB s t o a3 a4 now = true then 2 else s
def alO (s t o a3 a4 now : Int) : Int := if s = 0 then o else if alB s t o a3 a4 now = true then (if s = 1 then 1 else o + 1) else o
/-- What AllowFetch tells: a code, the breaker, whether it is allowed. -/
def allowR (s t o : Int) (l : List Mk) (a0 a1 a2 a3 a4 now : Int) : Int × Bk × Bool := if turnC s t o l a0 a1 a2 a3 a4 now = 0 then (0, ⟨alS s t o a3 a4 now, t, alO s t o a3 a4 now, l⟩, alB s t o a3 a4 now) else (turnC s t o l a0 a1 a2 a3 a4 now, ⟨0, 0, 0, []⟩, false)
def AllowRes (w : World) (base : Nat) (q : Int × Bk × Bool) (e : Ending) : Prop := ∃ a c, e = .returned (.agg #[.int .i64 q.1, .int .i64 q.2.1.s, .int .i64 q.2.1.t, .int .i64 q.2.1.o, .slice a q.2.1.l.length c, .bool q.2.2]) ∧ MkNew w base (.slice a q.2.1.l.length c) q.2.1.l
theorem AllowRes.mk {w : World} {base : Nat} {q : Int × Bk × Bool} {c0 s t o : Int} {a : Option Addr} {n c : Nat} {l : List Mk} {b : Bool} (h : q = (c0, ⟨s, t, o, l⟩, b)) (hn : l.length = n) (hm : MkNew w base (.slice a n c) l) : AllowRes w base q (.returned (.agg #[.int .i64 c0, .int .i64 s, .int .i64 t, .int .i64 o, .slice a n c, .bool b])) := by
  subst h; subst hn
  exact ⟨a, c, rfl, hm⟩
theorem turn_of {s t o : Int} {l : List Mk} {a0 a1 a2 a3 a4 now : Int} (h : turnC s t o l a0 a1 a2 a3 a4 now = 0) : brkC s t o l = 0 ∧ rulesC a0 a1 a2 a3 a4 = 0 ∧ askK t l now = true := by
  unfold turnC at h
  split at h
  · rename_i h1
    split at h
    · rename_i h2
      split at h
      · rename_i h3; exact ⟨h1, h2, h3⟩
      · cases h
    · rename_i h2; exact absurd h h2
  · rename_i h1; exact absurd h h1
/-- What is so of a breaker, rules and a time that have no fault. -/
structure Good (s t o : Int) (l : List Mk) (a0 a1 a2 a3 a4 now : Int) : Prop where
  hs : s = 0 ∨ s = 1 ∨ s = 2
  ht : 0 ≤ t ∧ t ≤ now
  ho : 0 ≤ o ∧ o ≤ 5
  hnow : now ≤ 1000000000000000
  hn : l.length ≤ 60
  hts : ∀ (i : Nat) x, l[i]? = some x → 0 ≤ x.tm ∧ x.tm ≤ 1000000000000000
  hl0 : ¬ s = 0 → l = []
  ho0 : ¬ s = 2 → o = 0
  hr0 : 1 ≤ a0 ∧ a0 ≤ 1000000
  hr1 : 1 ≤ a1 ∧ a1 ≤ 50
  hr2 : 1 ≤ a2 ∧ a2 ≤ 1000
  hr3 : 0 ≤ a3 ∧ a3 ≤ 1000000
  hr4 : 1 ≤ a4 ∧ a4 ≤ 5
theorem good_of {s t o : Int} {l : List Mk} {a0 a1 a2 a3 a4 now : Int} (h : turnC s t o l a0 a1 a2 a3 a4 now = 0) : Good s t o l a0 a1 a2 a3 a4 now := by
  obtain ⟨h1, h2, h3⟩ := turn_of h
  obtain ⟨b1, b2, b3, b4, b5⟩ := brkC_of h1
  have hr : rulesB a0 a1 a2 a3 a4 = true := by
    unfold rulesC at h2
    split at h2
    · assumption
    · cases h2
  obtain ⟨r0, r1, r2, r3, r4⟩ := rulesB_of hr
  simp only [askK, Bool.and_eq_true, decide_eq_true_eq] at h3
  simp only [brkHB, Bool.and_eq_true] at b1
  have s0 := inW_of b1.1.1
  have t0 := timeB_of b1.1.2
  have o0 := inW_of b1.2
  have n0 := timeB_of h3.1.1
  simp only [stateB, Bool.and_eq_true, Bool.or_eq_true, decide_eq_true_eq] at b5
  refine ⟨by omega, ⟨t0.1, h3.1.2⟩, o0, n0.2, b2, fun i x hx => timeB_of ((timesM_iff l).1 b3 i x hx), fun hs => ?_, fun hs => ?_, r0, r1, r2, r3, r4⟩
  · rcases b5.1 with h | h
    · exact List.eq_nil_of_length_eq_zero h
    · exact absurd h hs
  · rcases b5.2 with h | h
    · exact h
    · exact absurd h hs
theorem allowR_len {s t o : Int} {l : List Mk} {a0 a1 a2 a3 a4 now : Int} (h : l.length ≤ 1048576) : (allowR s t o l a0 a1 a2 a3 a4 now).2.1.l.length ≤ 1048576 := by
  unfold allowR
  split
  · exact h
  · simp
theorem allowR_bad {s t o : Int} {l : List Mk} {a0 a1 a2 a3 a4 now : Int} (h : ¬ turnC s t o l a0 a1 a2 a3 a4 now = 0) : allowR s t o l a0 a1 a2 a3 a4 now = (turnC s t o l a0 a1 a2 a3 a4 now, ⟨0, 0, 0, []⟩, false) := by rw [allowR, if_neg h]
theorem allowR_ok {s t o : Int} {l : List Mk} {a0 a1 a2 a3 a4 now : Int} (h : turnC s t o l a0 a1 a2 a3 a4 now = 0) : allowR s t o l a0 a1 a2 a3 a4 now = (0, ⟨alS s t o a3 a4 now, t, alO s t o a3 a4 now, l⟩, alB s t o a3 a4 now) := by rw [allowR, if_pos h]
end Go.Proofs.Ytmgidcigihpbeaa
/-
  The draws of rules.
-/
namespace Go.Proofs.Ytmgidcigihpbeaa
open Go.ChangeShapes Go.WideShapes Go.ChangeAt Go.RowKit Go.Sort
theorem C5.apart {B : Nat} {w w' : World} {b : Nat} {v0 v1 v2 v3 v4 : Value} (k : C5 w b v0 v1 v2 v3 v4) (ha : Apart B w w') (hn : b ≠ B) : C5 w' b v0 v1 v2 v3 v4 :=
  ⟨by rw [ha.cell _ _ k.lt hn]; exact k.c0, by rw [ha.cell _ _ k.lt hn]; exact k.c1, by rw [ha.cell _ _ k.lt hn]; exact k.c2, by rw [ha.cell _ _ k.lt hn]; exact k.c3, by rw [ha.cell _ _ k.lt hn]; exact k.c4, fun o => by rw [ha.frozen _ _ k.lt hn]; exact k.fr o, Nat.lt_of_lt_of_le k.lt ha.size⟩
set_option maxRecDepth 100000 in
set_option maxHeartbeats 4000000 in
theorem l10Rules_any (w : World) (B : Nat) (a : Option Addr) (len cap k : Nat) (hs : Src w B a len cap k) (hk : k ≤ 900) (hl2 : len ≤ 1048577) :
    Calls Try.prog 85 #[.pointer (some ⟨B, 0, none⟩)] w fun e w' => (∃ a0 a1 a2 a3 a4 : Int, e = .returned (.agg #[.int .i64 a0, .int .i64 a1, .int .i64 a2, .int .i64 a3, .int .i64 a4])) ∧ Src w' B a len cap (k + 5) ∧ Below B w w' ∧ Apart B w w' := by
  have hlt := hs.lt
  obtain ⟨W, hW⟩ : ∃ W, W = w.alloc (.cells #[.int .i64 0, .int .i64 0, .int .i64 0, .int .i64 0, .int .i64 0] 53) := ⟨_, rfl⟩
  have HW := hid12 hW
  have HS0 : Hid (Src W B a len cap (k)) := by show Src _ _ _ _ _ _; rw [hW]; exact hs.alloc _
  have HV : Hid (Below B w W ∧ Apart B w W) := by rw [hW]; exact ⟨(Below.refl _ _).alloc (Nat.le_of_lt hlt) _, Apart.alloc _ _ _⟩
  have HM : Hid (C5 W w.heap.size (.int .i64 0) (.int .i64 0) (.int .i64 0) (.int .i64 0) (.int .i64 0)) := by show C5 _ _ _ _ _ _ _; rw [hW]; exact C5.new w _ _ _ _ _ _
  have HA0 : Hid (Below B W W ∧ Apart B W W) := ⟨Below.refl _ _, Apart.refl _ _⟩
  clear hs hW
  go_enter Try.func85, Try.ntmps85
  go_upto_region 1 with fail
  rw [← HW.out]
  clear HW
  go_wp2_with fail
  refine (l1Pick_a _ B a len cap (k + 0) HS0.out [1000, 5000, 300] 3 rfl (by omega) (by omega) (by omega) hl2).mono ?_
  rintro r w1 ⟨⟨a0, _, rfl⟩, hs1, hb1, ha1⟩
  have HS1 : Hid (Src w1 B a len cap (k + 1)) := hs1
  have HA1 : Hid (Below B W w1 ∧ Apart B W w1) := ⟨HA0.out.1.trans hb1, HA0.out.2.trans ha1⟩
  clear hs1 hb1 ha1 HS0 HA0
  go_wp2_with fail
  refine (l1Pick_a _ B a len cap (k + 1) HS1.out [1, 2, 3, 5] 4 rfl (by omega) (by omega) (by omega) hl2).mono ?_
  rintro r w2 ⟨⟨a1, _, rfl⟩, hs1, hb1, ha1⟩
  have HS2 : Hid (Src w2 B a len cap (k + 2)) := hs1
  have HA2 : Hid (Below B W w2 ∧ Apart B W w2) := ⟨HA1.out.1.trans hb1, HA1.out.2.trans ha1⟩
  clear hs1 hb1 ha1 HS1 HA1
  go_wp2_with fail
  refine (l1Pick_a _ B a len cap (k + 2) HS2.out [500, 500, 1000, 1, 300] 5 rfl (by omega) (by omega) (by omega) hl2).mono ?_
  rintro r w3 ⟨⟨a2, _, rfl⟩, hs1, hb1, ha1⟩
  have HS3 : Hid (Src w3 B a len cap (k + 3)) := hs1
  have HA3 : Hid (Below B W w3 ∧ Apart B W w3) := ⟨HA2.out.1.trans hb1, HA2.out.2.trans ha1⟩
  clear hs1 hb1 ha1 HS2 HA2
  go_wp2_with fail
  refine (l1Pick_a _ B a len cap (k + 3) HS3.out [0, 500, 2000] 3 rfl (by omega) (by omega) (by omega) hl2).mono ?_
  rintro r w4 ⟨⟨a3, _, rfl⟩, hs1, hb1, ha1⟩
  have HS4 : Hid (Src w4 B a len cap (k + 4)) := hs1
  have HA4 : Hid (Below B W w4 ∧ Apart B W w4) := ⟨HA3.out.1.trans hb1, HA3.out.2.trans ha1⟩
  clear hs1 hb1 ha1 HS3 HA3
  go_wp2_with fail
  refine (l1Pick_a _ B a len cap (k + 4) HS4.out [1, 1, 2, 5] 4 rfl (by omega) (by omega) (by omega) hl2).mono ?_
  rintro r w5 ⟨⟨a4, _, rfl⟩, hs1, hb1, ha1⟩
  have HS5 : Hid (Src w5 B a len cap (k + 5)) := hs1
  have HA5 : Hid (Below B W w5 ∧ Apart B W w5) := ⟨HA4.out.1.trans hb1, HA4.out.2.trans ha1⟩
  clear hs1 hb1 ha1 HS4 HA4
  obtain ⟨r0, r1, r2, r3, r4, rf, _⟩ := HM.out.apart HA5.out.2 (by omega)
  go_wp2_with fail
  exact bodyPost_ret (v := .agg #[.int .i64 a0, .int .i64 a1, .int .i64 a2, .int .i64 a3, .int .i64 a4]) (by simp [results, Try.results85, go_sem, r0, r1, r2, r3, r4]) rfl ⟨⟨a0, a1, a2, a3, a4, rfl⟩, src_off (src_off (src_off (src_off (src_off (HS5.out) hlt) hlt) hlt) hlt) hlt, ((((((HV.out.1.trans HA5.out.1).setCell (Nat.le_of_lt hlt) _).setCell (Nat.le_of_lt hlt) _).setCell (Nat.le_of_lt hlt) _).setCell (Nat.le_of_lt hlt) _).setCell (Nat.le_of_lt hlt) _), ((((((HV.out.2.trans HA5.out.2).off (Nat.le_refl _)).off (Nat.le_refl _)).off (Nat.le_refl _)).off (Nat.le_refl _)).off (Nat.le_refl _))⟩
set_option maxRecDepth 100000 in
set_option maxHeartbeats 8000000 in
theorem drawRules_any (w : World) (a : Option Addr) (len cap : Nat) (hc : CodeRow w w.heap.size a len) (hl2 : len ≤ 1048577) :
    Calls Try.prog 87 #[.slice a len cap] w fun e w' => (∃ a0 a1 a2 a3 a4 : Int, e = .returned (.agg #[.int .i64 a0, .int .i64 a1, .int .i64 a2, .int .i64 a3, .int .i64 a4])) ∧ Below w.heap.size w w' := by
  obtain ⟨W, hW⟩ : ∃ W, W = w.alloc (.cells #[.int .i64 0, .int .i64 0, .int .i64 0, .int .i64 0, .int .i64 0] 53) := ⟨_, rfl⟩
  have HW := hid12 hW
  have bW : Below w.heap.size w W := by rw [hW]; exact (Below.refl _ _).alloc (Nat.le_refl _) _
  have hsz : W.heap.size = w.heap.size + 1 := by rw [hW]; simp
  have HM : Hid (C5 W w.heap.size (.int .i64 0) (.int .i64 0) (.int .i64 0) (.int .i64 0) (.int .i64 0)) := by show C5 _ _ _ _ _ _ _; rw [hW]; exact C5.new w _ _ _ _ _ _
  have HSR : Hid (Calls Try.prog 78 #[.slice a len cap] W fun e w' => e = .returned (.pointer (some ⟨w.heap.size + 1, 0, none⟩)) ∧ Src w' (w.heap.size + 1) a len cap 0 ∧ Below (w.heap.size + 1) W w') := by
    have := l1Source_any W a len cap ((hc.below bW).mono (by omega))
    rw [hsz] at this
    exact this
  have HBW := hid12 bW
  clear hc hW bW hsz
  go_enter Try.func87, Try.ntmps87
  go_wp2_with fail
  rw [← HW.out]
  clear HW
  refine HSR.out.mono ?_
  rintro r w1 ⟨rfl, hs1, hb1⟩
  have HS1 := hid12 hs1
  have HB1 := hid12 (HBW.out.trans (hb1.mono (Nat.le_succ _)))
  have HR1 := hid12 (HM.out.low hb1 (by omega))
  clear hs1 hb1 HSR HM HBW
  go_wp2_with fail
  refine (l10Rules_any _ (w.heap.size + 1) a len cap 0 HS1.out (by omega) hl2).mono ?_
  rintro r w2 ⟨⟨a0, a1, a2, a3, a4, rfl⟩, hs2, hb2, ha2⟩
  have HS2 : Hid (Src w2 (w.heap.size + 1) a len cap 5) := hs2
  have HB2 := hid12 (HB1.out.trans (hb2.mono (Nat.le_succ _)))
  have HR2 := hid12 (HR1.out.apart ha2 (by omega))
  clear hs2 hb2 ha2 HS1 HB1 HR1
  obtain ⟨V, hV⟩ : ∃ V, V = w2.alloc (.cells #[.int .i64 a0, .int .i64 a1, .int .i64 a2, .int .i64 a3, .int .i64 a4] 53) := ⟨_, rfl⟩
  have HV := hid12 hV
  have bV : Below w2.heap.size w2 V := by rw [hV]; exact (Below.refl _ _).alloc (Nat.le_refl _) _
  have dV : C5 V w2.heap.size (.int .i64 a0) (.int .i64 a1) (.int .i64 a2) (.int .i64 a3) (.int .i64 a4) := by rw [hV]; exact C5.new w2 _ _ _ _ _ _
  have HS3 : Hid (Src V (w.heap.size + 1) a len cap 5) := by show Src _ _ _ _ _ _; rw [hV]; exact HS2.out.alloc _
  have HB3 := hid12 (HB2.out.trans (bV.mono HB2.out.size))
  have HR3 := hid12 (HR2.out.keep bV)
  obtain ⟨L, hL⟩ : ∃ L, w2.heap.size = L := ⟨_, rfl⟩
  have HLB : Hid (w.heap.size + 2 ≤ L) := by show _ ≤ _; rw [← hL]; exact HS2.out.lt
  rw [hL] at dV
  have HL3 := hid12 dV
  clear hV bV dV HS2 HB2 HR2
  go_upto_region 3 with fail
  rw [← HV.out]
  clear HV hL
  go_wp2_with fail
  refine (l1Next_a _ (w.heap.size + 1) a len cap 5 12 HS3.out (by omega) (by omega) (by omega) hl2).mono ?_
  rintro r w4 ⟨⟨v, v0, v1, rfl⟩, hs4, hb4, ha4⟩
  have HS4 : Hid (Src w4 (w.heap.size + 1) a len cap 6) := hs4
  have HB4 := hid12 (HB3.out.trans (hb4.mono (Nat.le_succ _)))
  have HR4 := hid12 (HR3.out.apart ha4 (by omega))
  have HL4 := hid12 (HL3.out.apart ha4 (by have := HLB.out; omega))
  clear hs4 hb4 ha4 HS3 HB3 HR3 HL3
  have n0 : ¬ v = 0 → (v == 0) = false := fun h => by simpa using h
  have n1 : ¬ v = 1 → (v == 1) = false := fun h => by simpa using h
  have n2 : ¬ v = 2 → (v == 2) = false := fun h => by simpa using h
  have n3 : ¬ v = 3 → (v == 3) = false := fun h => by simpa using h
  have n4 : ¬ v = 4 → (v == 4) = false := fun h => by simpa using h
  by_cases hv0 : v = 0
  · subst hv0
    clear n0 n1 n2 n3 n4
    go_wp2_with fail
    refine (l1Pick_a _ (w.heap.size + 1) a len cap 6 HS4.out [0, 1000001] 2 rfl (by omega) (by omega) (by omega) hl2).mono ?_
    rintro r w5 ⟨⟨x, _, rfl⟩, _, hb1, ha1⟩
    have D5 := HL4.out.apart ha1 (by have := HLB.out; omega)
    have R5 := HR4.out.apart ha1 (by omega)
    have b5 := HB4.out.trans (hb1.mono (Nat.le_succ _))
    clear hb1 ha1 HS4 HL4 HR4 HB4
    have DL : Hid (C5 (w5.setCell ⟨L, 0, none⟩ (.int .i64 x)) L (.int .i64 x) (.int .i64 a1) (.int .i64 a2) (.int .i64 a3) (.int .i64 a4)) := by
      have ne : ∀ i j : Nat, i ≠ j → (⟨L, i, none⟩ : Addr) ≠ ⟨L, j, none⟩ := fun i j h e => h (congrArg Addr.off e)
      exact ⟨World.cell?_setCell_same _ _ _ D5.c0, by rw [World.cell?_setCell_other _ _ _ _ (ne _ _ (by decide))]; exact D5.c1, by rw [World.cell?_setCell_other _ _ _ _ (ne _ _ (by decide))]; exact D5.c2, by rw [World.cell?_setCell_other _ _ _ _ (ne _ _ (by decide))]; exact D5.c3, by rw [World.cell?_setCell_other _ _ _ _ (ne _ _ (by decide))]; exact D5.c4, fun o => by rw [World.frozen?_setCell]; exact D5.fr o, by simpa using D5.lt⟩
    have DR : Hid (C5 (w5.setCell ⟨L, 0, none⟩ (.int .i64 x)) w.heap.size (.int .i64 0) (.int .i64 0) (.int .i64 0) (.int .i64 0) (.int .i64 0)) := R5.gb (gbSet _ _ _ _) (by have := HLB.out; omega)
    have BX : Hid (Below w.heap.size w (w5.setCell ⟨L, 0, none⟩ (.int .i64 x))) := b5.setCell (by have := HLB.out; simp; omega) _
    obtain ⟨V, hV⟩ : ∃ V, V = w5.setCell ⟨L, 0, none⟩ (.int .i64 x) := ⟨_, rfl⟩
    have HV := hid12 hV
    rw [← hV] at DL DR BX
    obtain ⟨d0, d1, d2, d3, d4, df, _⟩ := D5
    clear R5 b5 hV
    go_upto_region 14 with fail
    rw [← HV.out]
    clear HV d0 d1 d2 d3 d4 df
    obtain ⟨o0, o1, o2, o3, o4, of, _⟩ := DL.out
    obtain ⟨r0, r1, r2, r3, r4, rf, _⟩ := DR.out
    go_wp2_with fail
    exact bodyPost_ret (v := .agg #[.int .i64 x, .int .i64 a1, .int .i64 a2, .int .i64 a3, .int .i64 a4]) (by simp [results, Try.results87, go_sem, r0, r1, r2, r3, r4]) rfl ⟨⟨_, _, _, _, _, rfl⟩, (((((BX.out.setCell (Nat.le_refl _) _).setCell (Nat.le_refl _) _).setCell (Nat.le_refl _) _).setCell (Nat.le_refl _) _).setCell (Nat.le_refl _) _)⟩
  by_cases hv1 : v = 1
  · subst hv1
    have z0 := n0 (by omega)
    clear n0 n1 n2 n3 n4
    go_wp2_with fail
    refine (l1Pick_a _ (w.heap.size + 1) a len cap 6 HS4.out [0, 51] 2 rfl (by omega) (by omega) (by omega) hl2).mono ?_
    rintro r w5 ⟨⟨x, _, rfl⟩, _, hb1, ha1⟩
    have D5 := HL4.out.apart ha1 (by have := HLB.out; omega)
    have R5 := HR4.out.apart ha1 (by omega)
    have b5 := HB4.out.trans (hb1.mono (Nat.le_succ _))
    clear hb1 ha1 HS4 HL4 HR4 HB4
    have DL : Hid (C5 (w5.setCell ⟨L, 1, none⟩ (.int .i64 x)) L (.int .i64 a0) (.int .i64 x) (.int .i64 a2) (.int .i64 a3) (.int .i64 a4)) := by
      have ne : ∀ i j : Nat, i ≠ j → (⟨L, i, none⟩ : Addr) ≠ ⟨L, j, none⟩ := fun i j h e => h (congrArg Addr.off e)
      exact ⟨by rw [World.cell?_setCell_other _ _ _ _ (ne _ _ (by decide))]; exact D5.c0, World.cell?_setCell_same _ _ _ D5.c1, by rw [World.cell?_setCell_other _ _ _ _ (ne _ _ (by decide))]; exact D5.c2, by rw [World.cell?_setCell_other _ _ _ _ (ne _ _ (by decide))]; exact D5.c3, by rw [World.cell?_setCell_other _ _ _ _ (ne _ _ (by decide))]; exact D5.c4, fun o => by rw [World.frozen?_setCell]; exact D5.fr o, by simpa using D5.lt⟩
    have DR : Hid (C5 (w5.setCell ⟨L, 1, none⟩ (.int .i64 x)) w.heap.size (.int .i64 0) (.int .i64 0) (.int .i64 0) (.int .i64 0) (.int .i64 0)) := R5.gb (gbSet _ _ _ _) (by have := HLB.out; omega)
    have BX : Hid (Below w.heap.size w (w5.setCell ⟨L, 1, none⟩ (.int .i64 x))) := b5.setCell (by have := HLB.out; simp; omega) _
    obtain ⟨V, hV⟩ : ∃ V, V = w5.setCell ⟨L, 1, none⟩ (.int .i64 x) := ⟨_, rfl⟩
    have HV := hid12 hV
    rw [← hV] at DL DR BX
    obtain ⟨d0, d1, d2, d3, d4, df, _⟩ := D5
    clear R5 b5 hV
    go_upto_region 14 with fail
    rw [← HV.out]
    clear HV d0 d1 d2 d3 d4 df
    obtain ⟨o0, o1, o2, o3, o4, of, _⟩ := DL.out
    obtain ⟨r0, r1, r2, r3, r4, rf, _⟩ := DR.out
    go_wp2_with fail
    exact bodyPost_ret (v := .agg #[.int .i64 a0, .int .i64 x, .int .i64 a2, .int .i64 a3, .int .i64 a4]) (by simp [results, Try.results87, go_sem, r0, r1, r2, r3, r4]) rfl ⟨⟨_, _, _, _, _, rfl⟩, (((((BX.out.setCell (Nat.le_refl _) _).setCell (Nat.le_refl _) _).setCell (Nat.le_refl _) _).setCell (Nat.le_refl _) _).setCell (Nat.le_refl _) _)⟩
  by_cases hv2 : v = 2
  · subst hv2
    have z0 := n0 (by omega)
    have z1 := n1 (by omega)
    clear n0 n1 n2 n3 n4
    go_wp2_with fail
    refine (l1Pick_a _ (w.heap.size + 1) a len cap 6 HS4.out [0, 1001] 2 rfl (by omega) (by omega) (by omega) hl2).mono ?_
    rintro r w5 ⟨⟨x, _, rfl⟩, _, hb1, ha1⟩
    have D5 := HL4.out.apart ha1 (by have := HLB.out; omega)
    have R5 := HR4.out.apart ha1 (by omega)
    have b5 := HB4.out.trans (hb1.mono (Nat.le_succ _))
    clear hb1 ha1 HS4 HL4 HR4 HB4
    have DL : Hid (C5 (w5.setCell ⟨L, 2, none⟩ (.int .i64 x)) L (.int .i64 a0) (.int .i64 a1) (.int .i64 x) (.int .i64 a3) (.int .i64 a4)) := by
      have ne : ∀ i j : Nat, i ≠ j → (⟨L, i, none⟩ : Addr) ≠ ⟨L, j, none⟩ := fun i j h e => h (congrArg Addr.off e)
      exact ⟨by rw [World.cell?_setCell_other _ _ _ _ (ne _ _ (by decide))]; exact D5.c0, by rw [World.cell?_setCell_other _ _ _ _ (ne _ _ (by decide))]; exact D5.c1, World.cell?_setCell_same _ _ _ D5.c2, by rw [World.cell?_setCell_other _ _ _ _ (ne _ _ (by decide))]; exact D5.c3, by rw [World.cell?_setCell_other _ _ _ _ (ne _ _ (by decide))]; exact D5.c4, fun o => by rw [World.frozen?_setCell]; exact D5.fr o, by simpa using D5.lt⟩
    have DR : Hid (C5 (w5.setCell ⟨L, 2, none⟩ (.int .i64 x)) w.heap.size (.int .i64 0) (.int .i64 0) (.int .i64 0) (.int .i64 0) (.int .i64 0)) := R5.gb (gbSet _ _ _ _) (by have := HLB.out; omega)
    have BX : Hid (Below w.heap.size w (w5.setCell ⟨L, 2, none⟩ (.int .i64 x))) := b5.setCell (by have := HLB.out; simp; omega) _
    obtain ⟨V, hV⟩ : ∃ V, V = w5.setCell ⟨L, 2, none⟩ (.int .i64 x) := ⟨_, rfl⟩
    have HV := hid12 hV
    rw [← hV] at DL DR BX
    obtain ⟨d0, d1, d2, d3, d4, df, _⟩ := D5
    clear R5 b5 hV
    go_upto_region 14 with fail
    rw [← HV.out]
    clear HV d0 d1 d2 d3 d4 df
    obtain ⟨o0, o1, o2, o3, o4, of, _⟩ := DL.out
    obtain ⟨r0, r1, r2, r3, r4, rf, _⟩ := DR.out
    go_wp2_with fail
    exact bodyPost_ret (v := .agg #[.int .i64 a0, .int .i64 a1, .int .i64 x, .int .i64 a3, .int .i64 a4]) (by simp [results, Try.results87, go_sem, r0, r1, r2, r3, r4]) rfl ⟨⟨_, _, _, _, _, rfl⟩, (((((BX.out.setCell (Nat.le_refl _) _).setCell (Nat.le_refl _) _).setCell (Nat.le_refl _) _).setCell (Nat.le_refl _) _).setCell (Nat.le_refl _) _)⟩
  by_cases hv3 : v = 3
  · subst hv3
    have z0 := n0 (by omega)
    have z1 := n1 (by omega)
    have z2 := n2 (by omega)
    clear n0 n1 n2 n3 n4
    go_wp2_with fail
    refine (l1Pick_a _ (w.heap.size + 1) a len cap 6 HS4.out [-1, 1000001] 2 rfl (by omega) (by omega) (by omega) hl2).mono ?_
    rintro r w5 ⟨⟨x, _, rfl⟩, _, hb1, ha1⟩
    have D5 := HL4.out.apart ha1 (by have := HLB.out; omega)
    have R5 := HR4.out.apart ha1 (by omega)
    have b5 := HB4.out.trans (hb1.mono (Nat.le_succ _))
    clear hb1 ha1 HS4 HL4 HR4 HB4
    have DL : Hid (C5 (w5.setCell ⟨L, 3, none⟩ (.int .i64 x)) L (.int .i64 a0) (.int .i64 a1) (.int .i64 a2) (.int .i64 x) (.int .i64 a4)) := by
      have ne : ∀ i j : Nat, i ≠ j → (⟨L, i, none⟩ : Addr) ≠ ⟨L, j, none⟩ := fun i j h e => h (congrArg Addr.off e)
      exact ⟨by rw [World.cell?_setCell_other _ _ _ _ (ne _ _ (by decide))]; exact D5.c0, by rw [World.cell?_setCell_other _ _ _ _ (ne _ _ (by decide))]; exact D5.c1, by rw [World.cell?_setCell_other _ _ _ _ (ne _ _ (by decide))]; exact D5.c2, World.cell?_setCell_same _ _ _ D5.c3, by rw [World.cell?_setCell_other _ _ _ _ (ne _ _ (by decide))]; exact D5.c4, fun o => by rw [World.frozen?_setCell]; exact D5.fr o, by simpa using D5.lt⟩
    have DR : Hid (C5 (w5.setCell ⟨L, 3, none⟩ (.int .i64 x)) w.heap.size (.int .i64 0) (.int .i64 0) (.int .i64 0) (.int .i64 0) (.int .i64 0)) := R5.gb (gbSet _ _ _ _) (by have := HLB.out; omega)
    have BX : Hid (Below w.heap.size w (w5.setCell ⟨L, 3, none⟩ (.int .i64 x))) := b5.setCell (by have := HLB.out; simp; omega) _
    obtain ⟨V, hV⟩ : ∃ V, V = w5.setCell ⟨L, 3, none⟩ (.int .i64 x) := ⟨_, rfl⟩
    have HV := hid12 hV
    rw [← hV] at DL DR BX
    obtain ⟨d0, d1, d2, d3, d4, df, _⟩ := D5
    clear R5 b5 hV
    go_upto_region 14 with fail
    rw [← HV.out]
    clear HV d0 d1 d2 d3 d4 df
    obtain ⟨o0, o1, o2, o3, o4, of, _⟩ := DL.out
    obtain ⟨r0, r1, r2, r3, r4, rf, _⟩ := DR.out
    go_wp2_with fail
    exact bodyPost_ret (v := .agg #[.int .i64 a0, .int .i64 a1, .int .i64 a2, .int .i64 x, .int .i64 a4]) (by simp [results, Try.results87, go_sem, r0, r1, r2, r3, r4]) rfl ⟨⟨_, _, _, _, _, rfl⟩, (((((BX.out.setCell (Nat.le_refl _) _).setCell (Nat.le_refl _) _).setCell (Nat.le_refl _) _).setCell (Nat.le_refl _) _).setCell (Nat.le_refl _) _)⟩
  by_cases hv4 : v = 4
  · subst hv4
    have z0 := n0 (by omega)
    have z1 := n1 (by omega)
    have z2 := n2 (by omega)
    have z3 := n3 (by omega)
    clear n0 n1 n2 n3 n4
    go_wp2_with fail
    refine (l1Pick_a _ (w.heap.size + 1) a len cap 6 HS4.out [0, 6] 2 rfl (by omega) (by omega) (by omega) hl2).mono ?_
    rintro r w5 ⟨⟨x, _, rfl⟩, _, hb1, ha1⟩
    have D5 := HL4.out.apart ha1 (by have := HLB.out; omega)
    have R5 := HR4.out.apart ha1 (by omega)
    have b5 := HB4.out.trans (hb1.mono (Nat.le_succ _))
    clear hb1 ha1 HS4 HL4 HR4 HB4
    have DL : Hid (C5 (w5.setCell ⟨L, 4, none⟩ (.int .i64 x)) L (.int .i64 a0) (.int .i64 a1) (.int .i64 a2) (.int .i64 a3) (.int .i64 x)) := by
      have ne : ∀ i j : Nat, i ≠ j → (⟨L, i, none⟩ : Addr) ≠ ⟨L, j, none⟩ := fun i j h e => h (congrArg Addr.off e)
      exact ⟨by rw [World.cell?_setCell_other _ _ _ _ (ne _ _ (by decide))]; exact D5.c0, by rw [World.cell?_setCell_other _ _ _ _ (ne _ _ (by decide))]; exact D5.c1, by rw [World.cell?_setCell_other _ _ _ _ (ne _ _ (by decide))]; exact D5.c2, by rw [World.cell?_setCell_other _ _ _ _ (ne _ _ (by decide))]; exact D5.c3, World.cell?_setCell_same _ _ _ D5.c4, fun o => by rw [World.frozen?_setCell]; exact D5.fr o, by simpa using D5.lt⟩
    have DR : Hid (C5 (w5.setCell ⟨L, 4, none⟩ (.int .i64 x)) w.heap.size (.int .i64 0) (.int .i64 0) (.int .i64 0) (.int .i64 0) (.int .i64 0)) := R5.gb (gbSet _ _ _ _) (by have := HLB.out; omega)
    have BX : Hid (Below w.heap.size w (w5.setCell ⟨L, 4, none⟩ (.int .i64 x))) := b5.setCell (by have := HLB.out; simp; omega) _
    obtain ⟨V, hV⟩ : ∃ V, V = w5.setCell ⟨L, 4, none⟩ (.int .i64 x) := ⟨_, rfl⟩
    have HV := hid12 hV
    rw [← hV] at DL DR BX
    obtain ⟨d0, d1, d2, d3, d4, df, _⟩ := D5
    clear R5 b5 hV
    go_upto_region 14 with fail
    rw [← HV.out]
    clear HV d0 d1 d2 d3 d4 df
    obtain ⟨o0, o1, o2, o3, o4, of, _⟩ := DL.out
    obtain ⟨r0, r1, r2, r3, r4, rf, _⟩ := DR.out
    go_wp2_with fail
    exact bodyPost_ret (v := .agg #[.int .i64 a0, .int .i64 a1, .int .i64 a2, .int .i64 a3, .int .i64 x]) (by simp [results, Try.results87, go_sem, r0, r1, r2, r3, r4]) rfl ⟨⟨_, _, _, _, _, rfl⟩, (((((BX.out.setCell (Nat.le_refl _) _).setCell (Nat.le_refl _) _).setCell (Nat.le_refl _) _).setCell (Nat.le_refl _) _).setCell (Nat.le_refl _) _)⟩
  have z0 := n0 hv0
  have z1 := n1 hv1
  have z2 := n2 hv2
  have z3 := n3 hv3
  have z4 := n4 hv4
  clear n0 n1 n2 n3 n4
  have DL := HL4
  have DR := HR4
  have BX := HB4
  clear HL4 HR4 HB4 HS4
  obtain ⟨o0, o1, o2, o3, o4, of, _⟩ := DL.out
  obtain ⟨r0, r1, r2, r3, r4, rf, _⟩ := DR.out
  go_wp2_with fail
  exact bodyPost_ret (v := .agg #[.int .i64 a0, .int .i64 a1, .int .i64 a2, .int .i64 a3, .int .i64 a4]) (by simp [results, Try.results87, go_sem, r0, r1, r2, r3, r4]) rfl ⟨⟨_, _, _, _, _, rfl⟩, (((((BX.out.setCell (Nat.le_refl _) _).setCell (Nat.le_refl _) _).setCell (Nat.le_refl _) _).setCell (Nat.le_refl _) _).setCell (Nat.le_refl _) _)⟩
end Go.Proofs.Ytmgidcigihpbeaa
/-
  Traces in memory.
-/
namespace Go.Proofs.Ytmgidcigihpbeaa
open Go.ChangeShapes Go.WideShapes Go.ChangeAt Go.RowKit
structure Tr where
  tm : Int
  ak : Bool
  gd : Bool
def TrAt (w : World) (b off : Nat) (l : List Tr) : Prop :=
  ∀ (i : Nat) r, l[i]? = some r → w.cell? ⟨b, off + i * 3, none⟩ = some (.int .i64 r.tm) ∧ w.cell? ⟨b, off + i * 3 + 1, none⟩ = some (.bool r.ak) ∧ w.cell? ⟨b, off + i * 3 + 2, none⟩ = some (.bool r.gd)
theorem TrAt.keep {w w' : World} {b off : Nat} {l : List Tr} (h : TrAt w b off l) (hb : Below w.heap.size w w') : TrAt w' b off l := by
  intro i r hr
  obtain ⟨p0, p1, p2⟩ := h i r hr
  exact ⟨by rw [hb.cell (block_lt_of_cell p0)]; exact p0, by rw [hb.cell (block_lt_of_cell p1)]; exact p1, by rw [hb.cell (block_lt_of_cell p2)]; exact p2⟩
/-- The slice at a holds l. -/
def TrIn (w : World) (a : Option Addr) (l : List Tr) : Prop := l = [] ∨ ∃ b off, a = some ⟨b, off, none⟩ ∧ TrAt w b off l
theorem TrIn.keep {w w' : World} {a : Option Addr} {l : List Tr} (h : TrIn w a l) (hb : Below w.heap.size w w') : TrIn w' a l := by
  rcases h with h | ⟨b, off, e, hat⟩
  · exact .inl h
  · exact .inr ⟨b, off, e, hat.keep hb⟩
theorem dropTr (l : List Tr) (k : Nat) (r : Tr) (h : l[k]? = some r) : l.drop k = r :: l.drop (k + 1) := by
  obtain ⟨hk, rfl⟩ := List.getElem?_eq_some_iff.1 h
  exact List.drop_eq_getElem_cons hk
def szTr (left : Int) (n : Nat) : Int := if left - (n : Int) < 0 then -1 else left - (n : Int)
theorem szTr_room {left : Int} {n : Nat} (h1 : left ≤ 1048576) (h : ¬ szTr left n < 0) : (n : Int) ≤ 1048576 ∧ szTr left n ≤ left ∧ 0 ≤ szTr left n := by
  unfold szTr at h ⊢
  by_cases c0 : left - (n : Int) < 0
  · rw [if_pos c0] at h; omega
  · rw [if_neg c0] at h ⊢; omega
end Go.Proofs.Ytmgidcigihpbeaa
/-
  The laws' copy of a list, and their comparing of two.
-/
namespace Go.Proofs.Ytmgidcigihpbeaa
open Go.ChangeShapes Go.WideShapes Go.ChangeAt Go.RowKit Go.Sort
/-- m cells from the head of block G on are there and may be written. -/
def RoomTr (w : World) (G m : Nat) : Prop := ∀ j, j < m → (∃ u, w.cell? ⟨G, j, none⟩ = some u) ∧ w.frozen? ⟨G, j, none⟩ = false
theorem RoomTr.keep {w w' : World} {G m : Nat} (h : RoomTr w G m) (hb : Below w.heap.size w w') : RoomTr w' G m := by
  intro j hj
  obtain ⟨⟨u, hu⟩, hf⟩ := h j hj
  exact ⟨⟨u, by rw [hb.cell (block_lt_of_cell hu)]; exact hu⟩, by rw [hb.frozen (block_lt_of_cell hu)]; exact hf⟩
theorem RoomTr.set {w : World} {G m : Nat} (h : RoomTr w G m) (a : Addr) (v : Value) : RoomTr (w.setCell a v) G m := by
  intro j hj
  obtain ⟨⟨u, hu⟩, hf⟩ := h j hj
  refine ⟨?_, by rw [World.frozen?_setCell]; exact hf⟩
  by_cases e : a = ⟨G, j, none⟩
  · exact ⟨v, by subst e; exact World.cell?_setCell_same _ _ _ hu⟩
  · exact ⟨u, by rw [World.cell?_setCell_other _ _ _ _ e]; exact hu⟩
def putTr (w : World) (G k : Nat) (r : Tr) : World := ((w.setCell ⟨G, k * 3, none⟩ (.int .i64 r.tm)).setCell ⟨G, k * 3 + 1, none⟩ (.bool r.ak)).setCell ⟨G, k * 3 + 2, none⟩ (.bool r.gd)
theorem offTr_ne {G i j : Nat} (h : i ≠ j) : (⟨G, i, none⟩ : Addr) ≠ ⟨G, j, none⟩ := fun e => h (congrArg Addr.off e)
theorem putTr_other (w : World) (G k : Nat) (r : Tr) (j : Nat) (h0 : k * 3 ≠ j) (h1 : k * 3 + 1 ≠ j) (h2 : k * 3 + 2 ≠ j) : (putTr w G k r).cell? ⟨G, j, none⟩ = w.cell? ⟨G, j, none⟩ := by
  unfold putTr
  rw [World.cell?_setCell_other _ _ _ _ (offTr_ne h2), World.cell?_setCell_other _ _ _ _ (offTr_ne h1), World.cell?_setCell_other _ _ _ _ (offTr_ne h0)]
theorem RoomTr.put {w : World} {G m : Nat} (h : RoomTr w G m) (k : Nat) (r : Tr) : RoomTr (putTr w G k r) G m := ((h.set _ _).set _ _).set _ _
theorem TrAt.put {w : World} {G n : Nat} {l : List Tr} {k : Nat} {r : Tr} (h : TrAt w G 0 (l.take k)) (hr : l[k]? = some r) (hm : RoomTr w G (n * 3)) (hk : k < n) : TrAt (putTr w G k r) G 0 (l.take (k + 1)) := by
  intro i q hq
  have hi : i < k + 1 := by
    have := (List.getElem?_eq_some_iff.1 hq).1
    simp at this; omega
  rw [List.getElem?_take_of_lt hi] at hq
  simp only [Nat.zero_add]
  by_cases e : i = k
  · subst e
    rw [hr] at hq
    obtain rfl := Option.some.inj hq
    obtain ⟨⟨u0, g0⟩, _⟩ := hm (i * 3) (by omega)
    obtain ⟨⟨u1, g1⟩, _⟩ := (hm.set ⟨G, i * 3, none⟩ (.int .i64 r.tm)) (i * 3 + 1) (by omega)
    obtain ⟨⟨u2, g2⟩, _⟩ := ((hm.set ⟨G, i * 3, none⟩ (.int .i64 r.tm)).set ⟨G, i * 3 + 1, none⟩ (.bool r.ak)) (i * 3 + 2) (by omega)
    unfold putTr
    exact ⟨by rw [World.cell?_setCell_other _ _ _ _ (offTr_ne (by omega)), World.cell?_setCell_other _ _ _ _ (offTr_ne (by omega))]; exact World.cell?_setCell_same _ _ _ g0, by rw [World.cell?_setCell_other _ _ _ _ (offTr_ne (by omega))]; exact World.cell?_setCell_same _ _ _ g1, by exact World.cell?_setCell_same _ _ _ g2⟩
  · have hq2 : (l.take k)[i]? = some q := by rw [List.getElem?_take_of_lt (by omega)]; exact hq
    obtain ⟨a0, a1, a2⟩ := h i q hq2
    simp only [Nat.zero_add] at a0 a1 a2
    exact ⟨by rw [putTr_other _ _ _ _ _ (by omega) (by omega) (by omega)]; exact a0, by rw [putTr_other _ _ _ _ _ (by omega) (by omega) (by omega)]; exact a1, by rw [putTr_other _ _ _ _ _ (by omega) (by omega) (by omega)]; exact a2⟩
end Go.Proofs.Ytmgidcigihpbeaa
/-
  A list in a row of one's own: what is appended; new lists.
-/
namespace Go.Proofs.Ytmgidcigihpbeaa
open Go.ChangeShapes Go.WideShapes Go.ChangeAt Go.RowKit Go.Sort
def cellTr (r : Tr) : List Value := [.int .i64 r.tm, .bool r.ak, .bool r.gd]
def wTr (l : List Tr) : List Value := l.flatMap cellTr
theorem wTr_len (l : List Tr) : (wTr l).length = l.length * 3 := by
  induction l with
  | nil => rfl
  | cons r l ih => simp only [wTr, List.flatMap_cons, List.length_append, List.length_cons] at ih ⊢; rw [ih]; simp [cellTr]; omega
theorem wTr_at (l : List Tr) : ∀ (i : Nat) r, l[i]? = some r → (wTr l)[i * 3]? = some (.int .i64 r.tm) ∧ (wTr l)[i * 3 + 1]? = some (.bool r.ak) ∧ (wTr l)[i * 3 + 2]? = some (.bool r.gd) := by
  induction l with
  | nil => intro i r hr; simp at hr
  | cons x l ih =>
    intro i r hr
    have e : wTr (x :: l) = .int .i64 x.tm :: .bool x.ak :: .bool x.gd :: wTr l := by simp [wTr, cellTr]
    rw [e]
    cases i with
    | zero => simp at hr; subst hr; simp
    | succ i =>
      have := ih i r (by simpa using hr)
      rw [show (i + 1) * 3 = i * 3 + 3 from by omega]
      simpa using this
theorem wTr_one (l : List Tr) : ∀ u ∈ wTr l, u.oneCell' = true := by
  intro u hu
  simp only [wTr, List.mem_flatMap] at hu
  obtain ⟨r, _, hr⟩ := hu
  simp only [cellTr, List.mem_cons, List.not_mem_nil, or_false] at hr
  rcases hr with rfl | rfl | rfl <;> rfl
theorem addTr (b off j : Nat) : (⟨b, off, none⟩ : Addr).add j = ⟨b, off + j, none⟩ := by unfold Addr.add; split <;> simp_all
theorem wTr_in {w : World} {a : Option Addr} {l : List Tr} (h : TrIn w a l) : l.length = 0 ∨ ∃ ad, a = some ad ∧ ∀ j u, (wTr l)[j]? = some u → w.cell? (ad.add j) = some u := by
  rcases h with rfl | ⟨b, off, rfl, h⟩
  · exact .inl rfl
  · refine .inr ⟨_, rfl, fun j u hj => ?_⟩
    rw [addTr]
    have hlt : j < (wTr l).length := (List.getElem?_eq_some_iff.1 hj).1
    rw [wTr_len] at hlt
    obtain ⟨r, hr⟩ : ∃ r, l[j / 3]? = some r := ⟨l[j / 3]'(by omega), List.getElem?_eq_getElem _⟩
    obtain ⟨e0, e1, e2⟩ := wTr_at l (j / 3) r hr
    obtain ⟨c0, c1, c2⟩ := h (j / 3) r hr
    obtain hm | hm | hm : j % 3 = 0 ∨ j % 3 = 1 ∨ j % 3 = 2 := by omega
    · have ej : j / 3 * 3 = j := by omega
      rw [ej] at e0 c0
      rw [e0] at hj
      rw [← hj]; exact c0
    · have ej : j / 3 * 3 + 1 = j := by omega
      rw [ej] at e1
      rw [Nat.add_assoc, ej] at c1
      rw [e1] at hj
      rw [← hj]; exact c1
    · have ej : j / 3 * 3 + 2 = j := by omega
      rw [ej] at e2
      rw [Nat.add_assoc, ej] at c2
      rw [e2] at hj
      rw [← hj]; exact c2
/-- v holds l in a block of its own, from base on. -/
def TrNew (w : World) (base : Nat) (v : Value) (l : List Tr) : Prop := (l = [] ∧ ∃ a c, v = .slice a 0 c) ∨ ∃ g off cap, v = .slice (some ⟨g, off, none⟩) l.length cap ∧ base ≤ g ∧ g < w.heap.size ∧ TrAt w g off l ∧ ∀ o, w.frozen? ⟨g, o, none⟩ = false
theorem TrNew.in {w : World} {base : Nat} {v : Value} {l : List Tr} (h : TrNew w base v l) : ∃ a c, v = .slice a l.length c ∧ TrIn w a l := by
  rcases h with ⟨rfl, a, c, rfl⟩ | ⟨g, off, cap, rfl, _, _, h, _⟩
  · exact ⟨a, c, rfl, .inl rfl⟩
  · exact ⟨_, _, rfl, .inr ⟨g, off, rfl, h⟩⟩
theorem TrNew.keep {w w' : World} {base : Nat} {v : Value} {l : List Tr} (h : TrNew w base v l) (hb : Below w.heap.size w w') : TrNew w' base v l := by
  rcases h with h | ⟨g, off, cap, e, h1, h2, h3, h4⟩
  · exact .inl h
  · exact .inr ⟨g, off, cap, e, h1, Nat.lt_of_lt_of_le h2 hb.size, h3.keep hb, fun o => by rw [hb.frozen (p := ⟨g, o, none⟩) h2]; exact h4 o⟩
theorem TrNew.lower {w : World} {b0 base : Nat} {v : Value} {l : List Tr} (h : TrNew w base v l) (hb : b0 ≤ base) : TrNew w b0 v l := by
  rcases h with h | ⟨g, off, cap, e, h1, h2⟩
  · exact .inl h
  · exact .inr ⟨g, off, cap, e, by omega, h2⟩
theorem TrNew.nil (w : World) (base : Nat) (a : Option Addr) (c : Nat) : TrNew w base (.slice a 0 c) [] := .inl ⟨rfl, a, c, rfl⟩
theorem TrAt.one {g G off : Nat} {w w' : World} {l : List Tr} (h : TrAt w G off l) (k : OneB g w w') (hne : G ≠ g) : TrAt w' G off l := by
  intro i r hr
  obtain ⟨p0, p1, p2⟩ := h i r hr
  exact ⟨by rw [k.cell _ hne]; exact p0, by rw [k.cell _ hne]; exact p1, by rw [k.cell _ hne]; exact p2⟩
theorem TrNew.one {g : Nat} {w w' : World} {base : Nat} {v : Value} {l : List Tr} (h : TrNew w base v l) (k : OneB g w w') (hne : ∀ G, v.ownBlock = some G → G ≠ g) : TrNew w' base v l := by
  rcases h with h | ⟨G, off, cap, rfl, h1, h2, h3, h4⟩
  · exact .inl h
  · have hn := hne G rfl
    exact .inr ⟨G, off, cap, rfl, h1, by rw [k.size]; exact h2, h3.one k hn, fun o => by rw [k.frozen _ hn]; exact h4 o⟩
theorem TrNew.spot {w : World} {base : Nat} {a : Option Addr} {n c : Nat} {l : List Tr} (h : TrNew w base (.slice a n c) l) : ∃ g off, base ≤ g ∧ (l = [] ∨ (a = some ⟨g, off, none⟩ ∧ TrAt w g off l ∧ ∀ o, o < off + l.length * 3 → w.frozen? ⟨g, o, none⟩ = false)) ∧ (l = [] ∨ g < w.heap.size) := by
  rcases h with ⟨e, _⟩ | ⟨g, off, cap, e, h1, h2, h3, h4⟩
  · exact ⟨base, 0, Nat.le_refl _, .inl e, .inl e⟩
  · simp only [Value.slice.injEq] at e
    obtain ⟨rfl, rfl, rfl⟩ := e
    exact ⟨g, off, h1, .inr ⟨rfl, h3, fun o _ => h4 o⟩, .inr h2⟩
end Go.Proofs.Ytmgidcigihpbeaa
/-
  Draws, and the blocks apart from the source of draws.
-/
namespace Go.Proofs.Ytmgidcigihpbeaa
open Go.ChangeShapes Go.WideShapes Go.ChangeAt Go.RowKit
structure ApartH (B : Nat) (w w' : World) : Prop where
  size : w.heap.size ≤ w'.heap.size
  block : ∀ b, b < w.heap.size → b ≠ B → w'.heap[b]? = w.heap[b]?
theorem ApartH.refl (B : Nat) (w : World) : ApartH B w w := ⟨Nat.le_refl _, fun _ _ _ => rfl⟩
theorem ApartH.trans {B : Nat} {w w1 w2 : World} (h : ApartH B w w1) (k : ApartH B w1 w2) : ApartH B w w2 :=
  ⟨Nat.le_trans h.size k.size, fun b hb hn => by rw [k.block b (Nat.lt_of_lt_of_le hb h.size) hn, h.block b hb hn]⟩
theorem ApartH.below {B : Nat} {w w' : World} (h : Below w.heap.size w w') : ApartH B w w' := ⟨h.size, fun b hb _ => h.block b hb⟩
theorem ApartH.alloc (B : Nat) (w : World) (o : Obj) : ApartH B w (w.alloc o) := .below ((Below.refl _ _).alloc (Nat.le_refl _) _)
theorem setCell_block {w : World} {a : Addr} {v : Value} {b : Nat} (h : b ≠ a.block) : (w.setCell a v).heap[b]? = w.heap[b]? := by
  unfold World.setCell
  simp only [Array.getElem?_modify]
  rw [if_neg (fun k => h k.symm)]
theorem ApartH.stepped {B : Nat} {w w' : World} {v : Value} (h : ∃ m, w' = (w.setCell ⟨B, 1, none⟩ v).drewN m) : ApartH B w w' := by
  obtain ⟨m, rfl⟩ := h
  refine ⟨by simp, fun b _ hn => ?_⟩
  have e : ((w.setCell ⟨B, 1, none⟩ v).drewN m).heap = (w.setCell ⟨B, 1, none⟩ v).heap := by simp
  rw [e, setCell_block hn]
theorem ApartH.cells {B : Nat} {w w' : World} (h : ApartH B w w') : Apart B w w' := by
  refine ⟨h.size, fun b o hb hn => ?_, fun b o hb hn => ?_⟩
  · have := h.block b hb hn
    simp only [World.cell?, this]
  · have := h.block b hb hn
    simp only [World.frozen?, this]
theorem l1Next_h (w : World) (B : Nat) (a : Option Addr) (len cap k : Nat) (n : Int) (hs : Src w B a len cap k)
    (hk : k ≤ 1000000) (hn : 1 ≤ n) (hn2 : n ≤ 1000000) (hl2 : len ≤ 1048577) :
    Calls Try.prog 57 #[.pointer (some ⟨B, 0, none⟩), .int .i64 n] w fun e w' => (∃ v : Int, 0 ≤ v ∧ v < n ∧ e = .returned (.int .i64 v)) ∧ Src w' B a len cap (k + 1) ∧ Below B w w' ∧ ApartH B w w' :=
  (l1Next_any w B a len cap k n hs hk hn hn2 hl2).mono fun _ _ ⟨h1, h2⟩ => ⟨h1, (hs.stepped h2).1, (hs.stepped h2).2, .stepped h2⟩
theorem l1Chance_h (w : World) (B : Nat) (a : Option Addr) (len cap k : Nat) (n : Int) (hs : Src w B a len cap k)
    (hk : k ≤ 1000000) (hn : 1 ≤ n) (hn2 : n ≤ 1000000) (hl2 : len ≤ 1048577) :
    Calls Try.prog 56 #[.pointer (some ⟨B, 0, none⟩), .int .i64 n] w fun e w' => (∃ b : Bool, e = .returned (.bool b)) ∧ Src w' B a len cap (k + 1) ∧ Below B w w' ∧ ApartH B w w' :=
  (l1Chance_any w B a len cap k n hs hk hn hn2 hl2).mono fun _ _ ⟨h1, h2⟩ => ⟨h1, (hs.stepped h2).1, (hs.stepped h2).2, .stepped h2⟩
theorem l1Pick_h (w0 : World) (B : Nat) (a : Option Addr) (len cap k : Nat) (hs : Src w0 B a len cap k) (xs : List Int) (n : Nat) (hn : xs.length = n) (hpos : 0 < n) (hlen : n ≤ 1000)
    (hk : k ≤ 1000000) (hl2 : len ≤ 1048577) :
    Calls Try.prog 39 #[.pointer (some ⟨B, 0, none⟩), .slice (some ⟨w0.heap.size, 0, none⟩) n n] (w0.alloc (.cells (xs.map (Value.int .i64)).toArray 2)) fun e w' => (∃ v : Int, v ∈ xs ∧ e = .returned (.int .i64 v)) ∧ Src w' B a len cap (k + 1) ∧ Below B w0 w' ∧ ApartH B w0 w' := by
  have hlt := hs.lt
  refine (l1Pick_any _ B a len cap k (hs.alloc _) w0.heap.size xs (by omega) n hn ?_ hpos hlen hk hl2).mono fun _ w' ⟨h1, h2⟩ => ⟨h1, ?_⟩
  · intro i x hx
    rw [World.cell?_alloc_mark]
    simp [hx]
  · obtain ⟨s, b⟩ := (hs.alloc _).stepped h2
    exact ⟨s, ((Below.refl B w0).alloc (Nat.le_of_lt hlt) _).trans b, (ApartH.alloc B w0 _).trans (.stepped h2)⟩
end Go.Proofs.Ytmgidcigihpbeaa
/-
  What an outcome turns, in plain words.
-/
namespace Go.Proofs.Ytmgidcigihpbeaa
open Go.ChangeShapes Go.WideShapes Go.ChangeAt Go.RowKit Go.Sort
def cntB (a0 now : Int) (r : Mk) : Bool := decide (now < addT r.tm a0)
def cntL (a0 now : Int) (l : List Mk) : List Mk := l.filter (cntB a0 now)
def noteL (l : List Mk) (a0 now : Int) (good : Bool) : List Mk := if 60 < (cntL a0 now l ++ [(⟨now, good⟩ : Mk)]).length then (cntL a0 now l ++ [(⟨now, good⟩ : Mk)]).drop 1 else cntL a0 now l ++ [(⟨now, good⟩ : Mk)]
def tooB (l : List Mk) (a1 a2 : Int) : Bool := decide (a1 ≤ (l.length : Int)) && decide (a2 * (l.length : Int) ≤ 1000 * (badM l : Int))
def noteV (s t o : Int) (l : List Mk) (a0 a1 a2 now : Int) (good : Bool) : Bk :=
  if s = 1 then ⟨s, t, o, l⟩ else if s = 2 then (if good = true then ⟨0, t, 0, l⟩ else ⟨1, now, 0, l⟩)
  else if tooB (noteL l a0 now good) a1 a2 = true then ⟨1, now, o, []⟩ else ⟨0, t, o, noteL l a0 now good⟩
def noteR (s t o : Int) (l : List Mk) (a0 a1 a2 a3 a4 now : Int) (good : Bool) : Int × Bk := if turnC s t o l a0 a1 a2 a3 a4 now = 0 then (0, noteV s t o l a0 a1 a2 now good) else (turnC s t o l a0 a1 a2 a3 a4 now, ⟨0, 0, 0, []⟩)
def NoteRes (w : World) (base : Nat) (q : Int × Bk) (e : Ending) : Prop := ∃ a c, e = .returned (.agg #[.int .i64 q.1, .int .i64 q.2.s, .int .i64 q.2.t, .int .i64 q.2.o, .slice a q.2.l.length c]) ∧ MkNew w base (.slice a q.2.l.length c) q.2.l
theorem NoteRes.mk {w : World} {base : Nat} {q : Int × Bk} {c0 s t o : Int} {a : Option Addr} {n c : Nat} {l : List Mk} (h : q = (c0, ⟨s, t, o, l⟩)) (hn : l.length = n) (hm : MkNew w base (.slice a n c) l) : NoteRes w base q (.returned (.agg #[.int .i64 c0, .int .i64 s, .int .i64 t, .int .i64 o, .slice a n c])) := by
  subst h; subst hn
  exact ⟨a, c, rfl, hm⟩
theorem cntL_le (a0 now : Int) (l : List Mk) : (cntL a0 now l).length ≤ l.length := List.length_filter_le _ _
theorem noteL_len {l : List Mk} {a0 now : Int} {good : Bool} (h : l.length ≤ 60) : (noteL l a0 now good).length ≤ 60 := by
  have := cntL_le a0 now l
  unfold noteL
  split
  · rw [List.length_drop, List.length_append]; simp; omega
  · omega
theorem noteR_len {s t o : Int} {l : List Mk} {a0 a1 a2 a3 a4 now : Int} {good : Bool} (h : l.length ≤ 1048576) : (noteR s t o l a0 a1 a2 a3 a4 now good).2.l.length ≤ 1048576 := by
  unfold noteR
  split
  · rename_i ht
    have := noteL_len (a0 := a0) (now := now) (good := good) (good_of ht).hn
    unfold noteV
    split
    · exact h
    · split
      · split <;> exact h
      · split
        · simp
        · show (noteL l a0 now good).length ≤ 1048576; omega
  · simp
theorem noteR_bad {s t o : Int} {l : List Mk} {a0 a1 a2 a3 a4 now : Int} {good : Bool} (h : ¬ turnC s t o l a0 a1 a2 a3 a4 now = 0) : noteR s t o l a0 a1 a2 a3 a4 now good = (turnC s t o l a0 a1 a2 a3 a4 now, ⟨0, 0, 0, []⟩) := by rw [noteR, if_neg h]
theorem noteR_ok {s t o : Int} {l : List Mk} {a0 a1 a2 a3 a4 now : Int} {good : Bool} (h : turnC s t o l a0 a1 a2 a3 a4 now = 0) : noteR s t o l a0 a1 a2 a3 a4 now good = (0, noteV s t o l a0 a1 a2 now good) := by rw [noteR, if_pos h]
theorem cntL_take {l : List Mk} {k : Nat} {r : Mk} (a0 now : Int) (hr : l[k]? = some r) : cntL a0 now (l.take (k + 1)) = cntL a0 now (l.take k) ++ (if cntB a0 now r = true then [r] else []) := by
  obtain ⟨hk, rfl⟩ := List.getElem?_eq_some_iff.1 hr
  rw [List.take_succ_eq_append_getElem hk, cntL, cntL, List.filter_append]
  cases h : cntB a0 now l[k] <;> simp [List.filter, h]
theorem mul_room {a2 : Int} {n : Nat} (h : 1 ≤ a2 ∧ a2 ≤ 1000) (hn : n ≤ 100) : 0 ≤ a2 * (n : Int) ∧ a2 * (n : Int) ≤ 100000 := by
  have h1 : a2 * (n : Int) ≤ 1000 * (n : Int) := Int.mul_le_mul_of_nonneg_right h.2 (by omega)
  have h2 : 0 ≤ a2 * (n : Int) := Int.mul_nonneg (by omega) (by omega)
  omega
theorem MkAt.drop1 {w : World} {g off : Nat} {x : Mk} {l : List Mk} (h : MkAt w g off (x :: l)) : MkAt w g (off + 2) l := by
  intro i r hr
  obtain ⟨p0, p1⟩ := h (i + 1) r (by simpa using hr)
  rw [show off + (i + 1) * 2 = off + 2 + i * 2 by omega] at p0 p1
  exact ⟨p0, p1⟩
theorem MkNew.drop1 {w : World} {base g off c c' : Nat} {n : Nat} {l : List Mk} (h : MkNew w base (.slice (some ⟨g, off, none⟩) (n + 1) c) l) (hn : l.length = n + 1) : MkNew w base (.slice (some ⟨g, off + 2, none⟩) n c') (l.drop 1) := by
  cases l with
  | nil => simp at hn
  | cons x l =>
    rcases h with ⟨e, _⟩ | ⟨G, off', cap, e, h1, h2, h3, h4⟩
    · cases e
    · simp only [Value.slice.injEq, Option.some.injEq, Addr.mk.injEq, and_true] at e
      obtain ⟨⟨rfl, rfl⟩, _, rfl⟩ := e
      simp only [List.length_cons, Nat.add_right_cancel_iff] at hn
      subst hn
      exact .inr ⟨g, off + 2, c', rfl, h1, h2, h3.drop1, h4⟩
end Go.Proofs.Ytmgidcigihpbeaa
/-
  Conditions of a breaker, by the program.
-/
namespace Go.Proofs.Ytmgidcigihpbeaa
open Go.ChangeShapes Go.WideShapes Go.ChangeAt Go.RowKit Go.Sort
theorem asOO (v : Value) (w : World) : (Instr.typeAssert (.iface 134 v) 100 134 true).run Try.prog w = .ok (.tuple #[v, .bool true]) w := by kernel_rfl
theorem asOH (v : Value) (w : World) : (Instr.typeAssert (.iface 134 v) 100 136 true).run Try.prog w = .ok (.tuple #[.agg #[.int .i64 0, .int .i64 0], .bool false]) w := by kernel_rfl
theorem asOC (v : Value) (w : World) : (Instr.typeAssert (.iface 134 v) 100 139 true).run Try.prog w = .ok (.tuple #[.agg #[.int .i64 0, .slice none 0 0], .bool false]) w := by kernel_rfl
theorem asHO (v : Value) (w : World) : (Instr.typeAssert (.iface 136 v) 100 134 true).run Try.prog w = .ok (.tuple #[.agg #[.int .i64 0], .bool false]) w := by kernel_rfl
theorem asHH (v : Value) (w : World) : (Instr.typeAssert (.iface 136 v) 100 136 true).run Try.prog w = .ok (.tuple #[v, .bool true]) w := by kernel_rfl
theorem asHC (v : Value) (w : World) : (Instr.typeAssert (.iface 136 v) 100 139 true).run Try.prog w = .ok (.tuple #[.agg #[.int .i64 0, .slice none 0 0], .bool false]) w := by kernel_rfl
theorem asCO (v : Value) (w : World) : (Instr.typeAssert (.iface 139 v) 100 134 true).run Try.prog w = .ok (.tuple #[.agg #[.int .i64 0], .bool false]) w := by kernel_rfl
theorem asCH (v : Value) (w : World) : (Instr.typeAssert (.iface 139 v) 100 136 true).run Try.prog w = .ok (.tuple #[.agg #[.int .i64 0, .int .i64 0], .bool false]) w := by kernel_rfl
theorem asCC (v : Value) (w : World) : (Instr.typeAssert (.iface 139 v) 100 139 true).run Try.prog w = .ok (.tuple #[v, .bool true]) w := by kernel_rfl
def MkRes (w : World) (base : Nat) (l : List Mk) (e : Ending) : Prop := ∃ a c, e = .returned (.slice a l.length c) ∧ MkNew w base (.slice a l.length c) l
theorem MkRes.of {w : World} {base : Nat} {l : List Mk} {v : Value} (h : MkNew w base v l) : MkRes w base l (.returned v) := by
  obtain ⟨a, c, rfl, _⟩ := h.in
  exact ⟨a, c, rfl, h⟩
set_option maxRecDepth 100000 in
set_option maxHeartbeats 1000000 in
theorem cloneMk_any (w : World) (a : Option Addr) (cap : Nat) (l : List Mk) (hl : l.length ≤ 1048576) (hi : MkIn w a l) :
    Calls Try.prog 89 #[.slice a l.length cap] w fun e w' => MkRes w' w.heap.size l e ∧ Below w.heap.size w w' := by
  cases a with
  | none =>
    have e : l = [] := by
      rcases hi with h | ⟨b, off, h, _⟩
      · exact h
      · cases h
    subst e
    have hq : ∀ W : World, (binOp .eql 49 (.slice none 0 cap) (.slice none 0 0)).run Try.prog W = .ok (.bool true) W := fun W => Go.Lib.run_eql_slice_nil W _ _ none 0 cap 0 0 Try.underlying49
    simp only [List.length_nil]
    go_enter Try.func89, Try.ntmps89
    go_wp2
    go_ret
    exact ⟨MkRes.of (MkNew.nil _ _ _ _), Below.refl _ _⟩
  | some ad =>
    have HI : Hid (MkIn w (some ad) l) := hi
    clear hi
    have HO0 : Hid (OwnMk (w.alloc (.cells #[] 112)) w.heap.size (.slice (some ⟨w.heap.size, 0, none⟩) 0 0) []) := OwnMk.made0 w w.heap.size (Nat.le_refl _)
    have HB0 : Hid (Below w.heap.size w (w.alloc (.cells #[] 112))) := (Below.refl _ _).alloc (Nat.le_refl _) _
    obtain ⟨n, hn⟩ : ∃ n, l.length = n := ⟨_, rfl⟩
    have HN : Hid (l.length = n) := hn
    rw [hn] at hl ⊢
    clear hn
    have hq : ∀ W : World, (binOp .eql 49 (.slice (some ad) n cap) (.slice none 0 0)).run Try.prog W = .ok (.bool false) W := fun W => Go.Lib.run_eql_slice_nil W _ _ (some ad) n cap 0 0 Try.underlying49
    go_enter Try.func89, Try.ntmps89
    go_wp2_with (at_builtin; refine wpList_appendInMk _ rfl (.tmp 5) (.tmp 6) rfl w.heap.size _ [] l (some ad) cap rfl (by rw [HN.out]; rfl) HO0.out (HI.out.keep HB0.out) (by simp; have := HN.out; omega) (by simp) ?_; intro v1 w1 ho1 hb1)
    go_ret
    exact ⟨MkRes.of ho1.new, HB0.out.trans hb1⟩
theorem breakO (t : Int) (w : World) : Calls Try.prog 113 #[.agg #[.int .i64 t]] w fun e w' => e = .returned (.agg #[.int .i64 1, .int .i64 t, .int .i64 0, .slice none 0 0]) ∧ Below w.heap.size w w' := by
  go_enter Try.func113, Try.ntmps113
  go_wp2
  exact bodyPost_ret (v := .agg #[.int .i64 1, .int .i64 t, .int .i64 0, .slice none 0 0]) (by simp [results, Try.results113, go_sem]) rfl ⟨rfl, ((Below.refl w.heap.size w).alloc (Nat.le_refl _) _).alloc (by simp) _⟩
theorem breakH (t o : Int) (w : World) : Calls Try.prog 114 #[.agg #[.int .i64 t, .int .i64 o]] w fun e w' => e = .returned (.agg #[.int .i64 2, .int .i64 t, .int .i64 o, .slice none 0 0]) ∧ Below w.heap.size w w' := by
  go_enter Try.func114, Try.ntmps114
  go_wp2
  exact bodyPost_ret (v := .agg #[.int .i64 2, .int .i64 t, .int .i64 o, .slice none 0 0]) (by simp [results, Try.results114, go_sem]) rfl ⟨rfl, ((Below.refl w.heap.size w).alloc (Nat.le_refl _) _).alloc (by simp) _⟩
theorem breakC (t : Int) (a : Option Addr) (n cap : Nat) (w : World) : Calls Try.prog 115 #[.agg #[.int .i64 t, .slice a n cap]] w fun e w' => e = .returned (.agg #[.int .i64 0, .int .i64 t, .int .i64 0, .slice a n cap]) ∧ Below w.heap.size w w' := by
  go_enter Try.func115, Try.ntmps115
  go_wp2
  exact bodyPost_ret (v := .agg #[.int .i64 0, .int .i64 t, .int .i64 0, .slice a n cap]) (by simp [results, Try.results115, go_sem]) rfl ⟨rfl, ((Below.refl w.heap.size w).alloc (Nat.le_refl _) _).alloc (by simp) _⟩
def CondR (w : World) (base : Nat) (t : Int) (l : List Mk) (e : Ending) : Prop := ∃ a c, e = .returned (.iface 139 (.agg #[.int .i64 t, .slice a l.length c])) ∧ MkNew w base (.slice a l.length c) l
theorem condO (t o : Int) (a : Option Addr) (n cap : Nat) (w : World) : Calls Try.prog 64 #[.agg #[.int .i64 1, .int .i64 t, .int .i64 o, .slice a n cap]] w fun e w' => e = .returned (.iface 134 (.agg #[.int .i64 t])) ∧ Below w.heap.size w w' := by
  go_enter Try.func64, Try.ntmps64
  go_wp2
  go_ret
  exact ⟨rfl, (Below.refl _ _).alloc (Nat.le_refl _) _⟩
theorem condH (t o : Int) (a : Option Addr) (n cap : Nat) (w : World) : Calls Try.prog 64 #[.agg #[.int .i64 2, .int .i64 t, .int .i64 o, .slice a n cap]] w fun e w' => e = .returned (.iface 136 (.agg #[.int .i64 t, .int .i64 o])) ∧ Below w.heap.size w w' := by
  go_enter Try.func64, Try.ntmps64
  go_wp2
  go_ret
  exact ⟨rfl, (Below.refl _ _).alloc (Nat.le_refl _) _⟩
set_option maxRecDepth 100000 in
set_option maxHeartbeats 4000000 in
theorem condC (t o : Int) (a : Option Addr) (cap : Nat) (l : List Mk) (hl : l.length ≤ 1048576) (w : World) (hi : MkIn w a l) : Calls Try.prog 64 #[.agg #[.int .i64 0, .int .i64 t, .int .i64 o, .slice a l.length cap]] w fun e w' => CondR w' w.heap.size t l e ∧ Below w.heap.size w w' := by
  obtain ⟨W, hW⟩ : ∃ W, W = w.alloc (.cells #[.int .i64 0, .int .i64 t, .int .i64 o, .slice a l.length cap] 51) := ⟨_, rfl⟩
  have HW : Hid (W = w.alloc (.cells #[.int .i64 0, .int .i64 t, .int .i64 o, .slice a l.length cap] 51)) := hW
  have bW : Below w.heap.size w W := by rw [hW]; exact (Below.refl _ _).alloc (Nat.le_refl _) _
  have f0 : S4 W w.heap.size (.int .i64 0) (.int .i64 t) (.int .i64 o) (.slice a l.length cap) := by rw [hW]; exact S4.new _ _ _ _ _ _
  have HC : Hid (∀ X, Below W.heap.size W X → Calls Try.prog 89 #[.slice a l.length cap] X fun e w' => MkRes w' X.heap.size l e ∧ Below X.heap.size X w') := fun X hX => cloneMk_any X a cap l hl ((hi.keep bW).keep hX)
  have HKS : Hid (∀ X, Below W.heap.size W X → X.cell? ⟨w.heap.size, 1, none⟩ = some (.int .i64 t) ∧ X.cell? ⟨w.heap.size, 3, none⟩ = some (.slice a l.length cap)) := fun X hX => ⟨(f0.keep hX).c1, (f0.keep hX).c3⟩
  have HBW : Hid (Below w.heap.size w W) := bW
  have B0 : Hid (Below W.heap.size W W.drew) := (Below.refl _ _).drew
  clear hi hl hW bW f0
  obtain ⟨n, hn⟩ : ∃ n, l.length = n := ⟨_, rfl⟩
  have HN : Hid (l.length = n) := hn
  rw [hn] at HC HKS HW ⊢
  clear hn
  go_enter Try.func64, Try.ntmps64
  go_wp2_with fail
  rw [← HW.out]
  go_region_held3 (fun X => X.cell? ⟨w.heap.size, 1, none⟩ = some (.int .i64 t) ∧ X.cell? ⟨w.heap.size, 3, none⟩ = some (.slice a n cap))
    (first | exact HKS.out _ BA.out | exact HKS.out _ B0.out)
    (first
    | (go_at_call 89; refine (HC.out _ B0.out).mono ?_; rintro r0 wa ⟨⟨va, vc, rfl, ma⟩, hba⟩; rw [HN.out] at ma ⊢; have BA : Hid (Below W.heap.size W wa) := B0.out.trans (hba.mono B0.out.size); have MA : Hid (MkNew wa w.heap.size (.slice va n vc) l) := ma.lower (Nat.le_trans HBW.out.size B0.out.size); clear hba ma))
  all_goals
    have KZ : Hid (Below w.heap.size w wa) := HBW.out.trans (BA.out.mono HBW.out.size)
    clear HKS B0 BA HC HW HBW
    go_wp2_with fail
    go_ret
    exact ⟨⟨va, vc, by rw [HN.out]; rfl, by rw [HN.out]; exact MA.out⟩, KZ.out⟩
set_option maxHeartbeats 1000000 in
theorem askO_no (t : Int) (a0 a1 a2 a3 a4 now : Int) (ht : 0 ≤ t ∧ t ≤ now ∧ now ≤ 1000000000000000) (hx : now - t < a3) (w : World) : Calls Try.prog 63 #[.iface 134 (.agg #[.int .i64 t]), .agg #[.int .i64 a0, .int .i64 a1, .int .i64 a2, .int .i64 a3, .int .i64 a4], .int .i64 now] w fun e w' => e = .returned (.tuple #[.iface 134 (.agg #[.int .i64 t]), .bool false]) ∧ Below w.heap.size w w' := by
  have q1 := asOO
  go_enter Try.func63, Try.ntmps63
  go_wp2
  exact bodyPost_ret (v := .tuple #[.iface 134 (.agg #[.int .i64 t]), .bool false]) (by simp [results, Try.results63, go_sem]) rfl ⟨rfl, by first | exact ((Below.refl _ _).alloc (Nat.le_refl _) _).alloc (by simp) _ | exact (Below.refl _ _).alloc (Nat.le_refl _) _⟩
set_option maxHeartbeats 1000000 in
theorem askO_yes (t : Int) (a0 a1 a2 a3 a4 now : Int) (ht : 0 ≤ t ∧ t ≤ now ∧ now ≤ 1000000000000000) (hx : ¬ now - t < a3) (w : World) : Calls Try.prog 63 #[.iface 134 (.agg #[.int .i64 t]), .agg #[.int .i64 a0, .int .i64 a1, .int .i64 a2, .int .i64 a3, .int .i64 a4], .int .i64 now] w fun e w' => e = .returned (.tuple #[.iface 136 (.agg #[.int .i64 t, .int .i64 1]), .bool true]) ∧ Below w.heap.size w w' := by
  have q1 := asOO
  go_enter Try.func63, Try.ntmps63
  go_wp2
  exact bodyPost_ret (v := .tuple #[.iface 136 (.agg #[.int .i64 t, .int .i64 1]), .bool true]) (by simp [results, Try.results63, go_sem]) rfl ⟨rfl, by first | exact ((Below.refl _ _).alloc (Nat.le_refl _) _).alloc (by simp) _ | exact (Below.refl _ _).alloc (Nat.le_refl _) _⟩
set_option maxHeartbeats 1000000 in
theorem askH_no (t o : Int) (a0 a1 a2 a3 a4 now : Int) (hx : a4 ≤ o) (w : World) : Calls Try.prog 63 #[.iface 136 (.agg #[.int .i64 t, .int .i64 o]), .agg #[.int .i64 a0, .int .i64 a1, .int .i64 a2, .int .i64 a3, .int .i64 a4], .int .i64 now] w fun e w' => e = .returned (.tuple #[.iface 136 (.agg #[.int .i64 t, .int .i64 o]), .bool false]) ∧ Below w.heap.size w w' := by
  have q1 := asHO
  have q2 := asHH
  go_enter Try.func63, Try.ntmps63
  go_wp2
  exact bodyPost_ret (v := .tuple #[.iface 136 (.agg #[.int .i64 t, .int .i64 o]), .bool false]) (by simp [results, Try.results63, go_sem]) rfl ⟨rfl, by first | exact ((Below.refl _ _).alloc (Nat.le_refl _) _).alloc (by simp) _ | exact (Below.refl _ _).alloc (Nat.le_refl _) _⟩
set_option maxHeartbeats 1000000 in
theorem askH_yes (t o : Int) (a0 a1 a2 a3 a4 now : Int) (ho : 0 ≤ o ∧ o ≤ 5) (hx : ¬ a4 ≤ o) (w : World) : Calls Try.prog 63 #[.iface 136 (.agg #[.int .i64 t, .int .i64 o]), .agg #[.int .i64 a0, .int .i64 a1, .int .i64 a2, .int .i64 a3, .int .i64 a4], .int .i64 now] w fun e w' => e = .returned (.tuple #[.iface 136 (.agg #[.int .i64 t, .int .i64 (o + 1)]), .bool true]) ∧ Below w.heap.size w w' := by
  have q1 := asHO
  have q2 := asHH
  go_enter Try.func63, Try.ntmps63
  go_wp2
  exact bodyPost_ret (v := .tuple #[.iface 136 (.agg #[.int .i64 t, .int .i64 (o + 1)]), .bool true]) (by simp [results, Try.results63, go_sem]) rfl ⟨rfl, by first | exact ((Below.refl _ _).alloc (Nat.le_refl _) _).alloc (by simp) _ | exact (Below.refl _ _).alloc (Nat.le_refl _) _⟩
set_option maxHeartbeats 1000000 in
theorem askC_all (v : Value) (a0 a1 a2 a3 a4 now : Int)  (w : World) : Calls Try.prog 63 #[.iface 139 v, .agg #[.int .i64 a0, .int .i64 a1, .int .i64 a2, .int .i64 a3, .int .i64 a4], .int .i64 now] w fun e w' => e = .returned (.tuple #[.iface 139 v, .bool true]) ∧ Below w.heap.size w w' := by
  have q1 := asCO
  have q2 := asCH
  go_enter Try.func63, Try.ntmps63
  go_wp2
  exact bodyPost_ret (v := .tuple #[.iface 139 v, .bool true]) (by simp [results, Try.results63, go_sem]) rfl ⟨rfl, by first | exact ((Below.refl _ _).alloc (Nat.le_refl _) _).alloc (by simp) _ | exact (Below.refl _ _).alloc (Nat.le_refl _) _⟩
end Go.Proofs.Ytmgidcigihpbeaa
/-
  Which outcomes count, and whether they are too bad, by the program.
-/
namespace Go.Proofs.Ytmgidcigihpbeaa
open Go.ChangeShapes Go.WideShapes Go.ChangeAt Go.RowKit Go.Sort
def CntR (w : World) (base : Nat) (l : List Mk) (e : Ending) : Prop := ∃ v, e = .returned v ∧ OwnMk w base v l
theorem CntR.mk {w : World} {base : Nat} {l m : List Mk} {v : Value} (h : OwnMk w base v m) (e : l = m) : CntR w base l (.returned v) := ⟨v, rfl, by rw [e]; exact h⟩
set_option maxRecDepth 100000 in
set_option maxHeartbeats 8000000 in
theorem counting_any (w : World) (a : Option Addr) (cap : Nat) (l : List Mk) (a0 now : Int) (hl : l.length ≤ 60) (hi : MkIn w a l) (h0 : 0 ≤ a0 ∧ a0 ≤ 1000000) (hts : ∀ (i : Nat) x, l[i]? = some x → 0 ≤ x.tm ∧ x.tm ≤ 1000000000000000) :
    Calls Try.prog 96 #[.slice a l.length cap, .int .i64 a0, .int .i64 now] w fun e w' => CntR w' w.heap.size (cntL a0 now l) e ∧ Below w.heap.size w w' := by
  have HI : Hid (MkIn w a l) := hi
  have HTS : Hid (∀ (i : Nat) x, l[i]? = some x → 0 ≤ x.tm ∧ x.tm ≤ 1000000000000000) := hts
  have HP : Hid (∀ x w, 0 ≤ x → x ≤ 1000000000000000 → Calls Try.prog 44 #[.int .i64 x, .int .i64 a0] w fun r w' => r = .returned (.int .i64 (addT x a0)) ∧ w' = w) := fun x w h1 h2 => plus_all x a0 ⟨h1, h2⟩ ⟨h0.1, by omega⟩ w
  clear hi hts h0
  obtain ⟨n, hn⟩ : ∃ n, l.length = n := ⟨_, rfl⟩
  rw [hn] at hl ⊢
  have HN : Hid (l.length = n) := hn
  clear hn
  go_enter Try.func96, Try.ntmps96
  go_wp2_with fail
  go_loopw [7, 12] (fun v i wr => ∃ k : Nat, k ≤ n ∧ i = .int .i64 k ∧ OwnMk wr w.heap.size v (cntL a0 now (l.take k)) ∧ Below w.heap.size w wr) (fun _ i _ => n - (intOf i).toNat)
  case atStart => exact ⟨0, Nat.zero_le _, rfl, OwnMk.none0 _ _, Below.refl _ _⟩
  case round =>
    obtain ⟨k, hk, rfl, ho, hb⟩ := hrel
    by_cases hlt : k < n
    · obtain ⟨r, hr⟩ : ∃ r, l[k]? = some r := ⟨l[k]'(by have := HN.out; omega), List.getElem?_eq_getElem _⟩
      rcases (HI.out.keep hb) with h | ⟨b, off, rfl, hat⟩
      · subst h; simp at hr
      obtain ⟨p0, p1⟩ := hat k r hr
      obtain ⟨t0, t1⟩ := HTS.out k r hr
      have CP := HP.out r.tm
      have HX := cntL_take a0 now hr
      have hcl : (cntL a0 now (l.take k)).length ≤ 60 := by have := cntL_le a0 now (l.take k); have := List.length_take_le k l; have := HN.out; simp at *; omega
      have gk : (k : Int) < n := by omega
      obtain ⟨X, hX⟩ : ∃ X, X = wr.alloc (.cells #[.int .i64 r.tm, .bool r.gd] 112) := ⟨_, rfl⟩
      have HXW : Hid (X = wr.alloc (.cells #[.int .i64 r.tm, .bool r.gd] 112)) := hX
      have bX : Below wr.heap.size wr X := by rw [hX]; exact (Below.refl _ _).alloc (Nat.le_refl _) _
      have HO : Hid (OwnMk X w.heap.size u7 (cntL a0 now (l.take k)) ∧ Below w.heap.size w X) := ⟨ho.below bX, hb.trans (bX.mono hb.size)⟩
      have HRR : Hid (∀ y : List Mk, y ++ [r] = y ++ [(⟨r.tm, r.gd⟩ : Mk)]) := fun y => rfl
      have hbs := hb.size
      clear hr hat ho hb HI hX bX
      cases hc : cntB a0 now r
      · rw [hc] at HX
        have HF : Hid (cntL a0 now (l.take (k + 1)) = cntL a0 now (l.take k)) := by show _ = _; rw [HX]; simp
        have gx : ¬ now < addT r.tm a0 := by simpa [cntB] using hc
        clear HX hc
        generalize hz : addT r.tm a0 = z at *
        clear hz
        generalize r.tm = rt at *
        generalize r.gd = rg at *
        go_wp2_with fail
        refine (CP _ t0 t1).mono ?_
        rintro e w2 ⟨rfl, rfl⟩
        go_wp2_with fail
        rw [← HXW.out]
        go_roundw
        case rel => exact ⟨k + 1, by omega, by go_num, by rw [HF.out]; exact HO.out.1, HO.out.2⟩
        case measure => simp [intOf]; omega
      · rw [hc] at HX
        have HF : Hid (cntL a0 now (l.take (k + 1)) = cntL a0 now (l.take k) ++ [(⟨r.tm, r.gd⟩ : Mk)]) := by show _ = _; rw [HX]; simp
        have gx : now < addT r.tm a0 := by simpa [cntB] using hc
        have hXs : w.heap.size ≤ X.heap.size := HO.out.2.size
        clear HX hc HRR
        generalize hz : addT r.tm a0 = z at *
        clear hz
        generalize r.tm = rt at *
        generalize r.gd = rg at *
        generalize cntL a0 now (l.take k) = Lk at *
        go_wp2_with fail
        refine (CP _ t0 t1).mono ?_
        rintro e w2 ⟨rfl, rfl⟩
        go_wp2_with (at_builtin; rw [← HXW.out]; refine wpList_append1Mk X rfl (.tmp 22) (.tmp 24) rfl w.heap.size _ Lk ⟨rt, rg⟩ rfl (by simp [go_sem, HXW.out]) HO.out.1 (by omega) hXs ?_; intro v4 w4 ho4 hb4 hg4)
        go_roundw
        case rel => exact ⟨k + 1, by omega, by go_num, by rw [HF.out]; exact ho4, HO.out.2.trans hb4⟩
        case measure => simp [intOf]; omega
    · have HF : Hid (cntL a0 now l = cntL a0 now (l.take k)) := by
        show _ = _
        rw [List.take_of_length_le (by have := HN.out; omega)]
      have HO : Hid (OwnMk wr w.heap.size u7 (cntL a0 now (l.take k))) := ho
      clear ho HI HTS HP
      go_wp2_with fail
      go_ret
      exact ⟨CntR.mk HO.out HF.out, hb⟩
set_option maxRecDepth 100000 in
set_option maxHeartbeats 8000000 in
theorem tooBad_any (w : World) (a : Option Addr) (cap : Nat) (l : List Mk) (a0 a1 a2 a3 a4 : Int) (hl : l.length ≤ 61) (hi : MkIn w a l) (h2 : 1 ≤ a2 ∧ a2 ≤ 1000) :
    Calls Try.prog 97 #[.slice a l.length cap, .agg #[.int .i64 a0, .int .i64 a1, .int .i64 a2, .int .i64 a3, .int .i64 a4]] w fun e w' => e = .returned (.bool (tooB l a1 a2)) ∧ Below w.heap.size w w' := by
  have mr := mul_room h2 (show l.length ≤ 100 by omega)
  have bl := badM_le l
  have w1 : IntKind.i64.wrap (1000 * (badM l : Int)) = 1000 * (badM l : Int) := by rw [IntKind.wrap_i64]; omega
  have w2 : IntKind.i64.wrap (a2 * (l.length : Int)) = a2 * (l.length : Int) := by rw [IntKind.wrap_i64]; omega
  obtain ⟨W, hW⟩ : ∃ W, W = w.alloc (.cells #[.int .i64 a0, .int .i64 a1, .int .i64 a2, .int .i64 a3, .int .i64 a4] 53) := ⟨_, rfl⟩
  have HW : Hid (W = w.alloc (.cells #[.int .i64 a0, .int .i64 a1, .int .i64 a2, .int .i64 a3, .int .i64 a4] 53)) := hW
  have bW : Below w.heap.size w W := by rw [hW]; exact (Below.refl _ _).alloc (Nat.le_refl _) _
  have f5 : S5 W w.heap.size (.int .i64 a0) (.int .i64 a1) (.int .i64 a2) (.int .i64 a3) (.int .i64 a4) := by rw [hW]; exact S5.new _ _ _ _ _ _ _
  have cB : ∀ d os, Calls Try.prog 75 #[.slice a l.length cap] (grow (redrawn W d) os) fun e w'' => e = .returned (.int .i64 (badM l : Int)) ∧ ∃ p : Regrown, w'' = grow (redrawn W p.d) p.os := fun d os => Calls.regrown_of (implBad_any _ a cap l (by omega) ((hi.keep bW).keep (below_regrown W d os)))
  have D1 := cell_regrown f5.c1
  have D2 := cell_regrown f5.c2
  have HBW : Hid (Below w.heap.size w W) := bW
  have HT : Hid (tooB l a1 a2 = (decide (a1 ≤ (l.length : Int)) && decide (a2 * (l.length : Int) ≤ 1000 * (badM l : Int)))) := rfl
  clear hi hW bW f5 bl mr
  generalize tooB l a1 a2 = tb at *
  generalize (badM l : Int) = bm at *
  generalize hnn : l.length = n at *
  have HNX : Hid (a2 * (n : Int) = a2 * (n : Int)) := rfl
  by_cases g1 : a1 ≤ (n : Int)
  · have d1 : decide (a1 ≤ (n : Int)) = true := by simpa using g1
    by_cases g2 : a2 * (n : Int) ≤ 1000 * bm
    · have HE : Hid (tb = true) := by show _ = _; rw [HT.out, d1]; simpa using g2
      have d2 : decide (a2 * (n : Int) ≤ 1000 * bm) = true := by simpa using g2
      clear HT
      go_enter Try.func97, Try.ntmps97
      go_wp2_with fail
      rw [← HW.out]
      refine wp_region_quiet_below (by kernel_rfl) (by kernel_rfl) ?_
      repeat (go_big_quiet_step ((go_at_call 75; exact cB _ _)))
      refine wpQuiet_nil ?_
      intro wq hwq
      have hbb : Below w.heap.size w wq := by
        obtain ⟨⟨d, os⟩, rfl⟩ := hwq
        exact HBW.out.trans ((below_regrown W d os).mono HBW.out.size)
      clear D1 D2 cB hwq HW
      go_wp2_with fail
      go_ret
      exact ⟨ret_bool HE.out.symm, hbb⟩
    · have HE : Hid (tb = false) := by show _ = _; rw [HT.out, d1]; simpa using g2
      have d2 : decide (a2 * (n : Int) ≤ 1000 * bm) = false := by simpa using g2
      clear HT
      go_enter Try.func97, Try.ntmps97
      go_wp2_with fail
      rw [← HW.out]
      refine wp_region_quiet_below (by kernel_rfl) (by kernel_rfl) ?_
      repeat (go_big_quiet_step ((go_at_call 75; exact cB _ _)))
      refine wpQuiet_nil ?_
      intro wq hwq
      have hbb : Below w.heap.size w wq := by
        obtain ⟨⟨d, os⟩, rfl⟩ := hwq
        exact HBW.out.trans ((below_regrown W d os).mono HBW.out.size)
      clear D1 D2 cB hwq HW
      go_wp2_with fail
      go_ret
      exact ⟨ret_bool HE.out.symm, hbb⟩
  · have HE : Hid (tb = false) := by show _ = _; rw [HT.out]; simp [g1]
    have d1 : decide (a1 ≤ (n : Int)) = false := by simpa using g1
    clear HT
    go_enter Try.func97, Try.ntmps97
    go_wp2_with fail
    rw [← HW.out]
    refine wp_region_quiet_below (by kernel_rfl) (by kernel_rfl) ?_
    repeat (go_big_quiet_step ((go_at_call 75; exact cB _ _)))
    refine wpQuiet_nil ?_
    intro wq hwq
    have hbb : Below w.heap.size w wq := by
      obtain ⟨⟨d, os⟩, rfl⟩ := hwq
      exact HBW.out.trans ((below_regrown W d os).mono HBW.out.size)
    clear D1 D2 cB hwq HW
    go_wp2_with fail
    go_ret
    exact ⟨ret_bool HE.out.symm, hbb⟩
end Go.Proofs.Ytmgidcigihpbeaa
