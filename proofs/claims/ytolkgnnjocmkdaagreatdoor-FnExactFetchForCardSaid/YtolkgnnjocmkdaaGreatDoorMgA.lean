/-
  Texts of one claim, one behind the other.
-/
import Derived.Below
import Derived.BigQuiet
import Derived.Deep.CutBlock
import Derived.Deep.CutRange
import Derived.Deep.QuietTactic
import Derived.Deep.RegionHeld3
import Derived.Deep.RegionWith
import Derived.Deep.Slices
import Derived.Deep.Strs
import Derived.Laws.IdiomStrings
import Derived.Lib.QuietBelow
import Derived.OpenShut
import Derived.ProofKit
import Derived.Test.YtolkgnnjocmkdaaGreatDoorProg
import Derived.WalkKit
import Derived.WalkLawsBesides
import Derived.WalkSpells
/-
  Small lemmas that the walks share.
-/
namespace Go.Proofs.YtolkgnnjocmkdaaGreatDoor
open Go.ChangeShapes Go.WideShapes Go.ChangeAt Go.RowKit
theorem bcell {W w1 : World} (hb : Below W.heap.size W w1) : (∀ b o, b < W.heap.size → w1.cell? ⟨b, o, none⟩ = W.cell? ⟨b, o, none⟩) ∧ (∀ b o, b < W.heap.size → w1.frozen? ⟨b, o, none⟩ = W.frozen? ⟨b, o, none⟩) :=
  ⟨fun b o h => hb.cell (p := ⟨b, o, none⟩) h, fun b o h => hb.frozen (p := ⟨b, o, none⟩) h⟩
theorem two_set {w : World} {B : Nat} {u0 u1 v0 v1 : Value} (p0 : w.cell? ⟨B, 0, none⟩ = some u0) (p1 : w.cell? ⟨B, 1, none⟩ = some u1) :
    ((w.setCell ⟨B, 0, none⟩ v0).setCell ⟨B, 1, none⟩ v1).cell? ⟨B, 0, none⟩ = some v0 ∧ ((w.setCell ⟨B, 0, none⟩ v0).setCell ⟨B, 1, none⟩ v1).cell? ⟨B, 1, none⟩ = some v1 := by
  constructor
  · rw [World.cell?_setCell_other _ _ _ _ (by intro h; have := congrArg Addr.off h; simp at this), World.cell?_setCell_same _ _ _ p0]
  · refine World.cell?_setCell_same _ _ _ (u := u1) ?_
    rw [World.cell?_setCell_other _ _ _ _ (by intro h; have := congrArg Addr.off h; simp at this), p1]
theorem ret_int {k : IntKind} {a b : Int} (h : a = b) : Ending.returned (.int k a) = .returned (.int k b) := by rw [h]
theorem ret_bool {a b : Bool} (h : a = b) : Ending.returned (.bool a) = .returned (.bool b) := by rw [h]
theorem ret_str {a b : ByteArray} (h : a = b) : Ending.returned (.string a) = .returned (.string b) := by rw [h]
theorem take_snoc (s : ByteArray) (k : Nat) (h : k < s.size) : s.data.toList.take (k + 1) = s.data.toList.take k ++ [s[k]] := by
  rw [List.take_succ_eq_append_getElem (by simpa using h)]; rfl
end Go.Proofs.YtolkgnnjocmkdaaGreatDoor
/-
  What a law keeps in memory while it goes on: facts that hang on the blocks of a stretch alone.
-/
namespace Go.Proofs.YtolkgnnjocmkdaaGreatDoor
open Go.ChangeShapes Go.WideShapes Go.ChangeAt Go.RowKit
theorem hidL {p : Prop} (h : p) : Hid p := h
/-- What C says hangs on the blocks from l up to h alone. -/
def Dep (l h : Nat) (C : World → Prop) : Prop :=
  ∀ X X' : World, h ≤ X.heap.size → X.heap.size ≤ X'.heap.size → (∀ b o, l ≤ b → b < h → X'.cell? ⟨b, o, none⟩ = X.cell? ⟨b, o, none⟩ ∧ X'.frozen? ⟨b, o, none⟩ = X.frozen? ⟨b, o, none⟩) → C X → C X'
structure At (l h : Nat) (C : Nat → Nat → World → Prop) (X : World) : Prop where
  le : h ≤ X.heap.size
  dep : Dep l h (C l h)
  val : C l h X
/-- Nothing is written but in the blocks from lo up to hi, and in new ones. -/
structure Wi (lo hi : Nat) (X X' : World) : Prop where
  size : X.heap.size ≤ X'.heap.size
  cell : ∀ b o, b < X.heap.size → (b < lo ∨ hi ≤ b) → X'.cell? ⟨b, o, none⟩ = X.cell? ⟨b, o, none⟩
  frozen : ∀ b o, b < X.heap.size → (b < lo ∨ hi ≤ b) → X'.frozen? ⟨b, o, none⟩ = X.frozen? ⟨b, o, none⟩
theorem At.wi {l h lo hi : Nat} {C : Nat → Nat → World → Prop} {X X' : World} (k : At l h C X) (g : Wi lo hi X X') (hd : h ≤ lo ∨ hi ≤ l) : At l h C X' :=
  ⟨Nat.le_trans k.le g.size, k.dep, k.dep X X' k.le g.size (fun b o h1 h2 => ⟨g.cell b o (Nat.lt_of_lt_of_le h2 k.le) (by omega), g.frozen b o (Nat.lt_of_lt_of_le h2 k.le) (by omega)⟩) k.val⟩
theorem Wi.of {lo hi : Nat} {X X' : World} (hb : Below X.heap.size X X') : Wi lo hi X X' :=
  ⟨hb.size, fun b o h _ => hb.cell (p := ⟨b, o, none⟩) h, fun b o h _ => hb.frozen (p := ⟨b, o, none⟩) h⟩
theorem At.keep {l h : Nat} {C : Nat → Nat → World → Prop} {X X' : World} (k : At l h C X) (hb : Below X.heap.size X X') : At l h C X' :=
  k.wi (lo := h) (hi := h) (Wi.of hb) (.inl (Nat.le_refl _))
theorem At.al {l h : Nat} {C : Nat → Nat → World → Prop} {X : World} (k : At l h C X) (o : Obj) : At l h C (X.alloc o) := k.keep ((Below.refl _ _).alloc (Nat.le_refl _) _)
theorem At.set {l h : Nat} {C : Nat → Nat → World → Prop} {X : World} (k : At l h C X) {b i : Nat} (u : Value) (hd : b < l ∨ h ≤ b) : At l h C (X.setCell ⟨b, i, none⟩ u) :=
  k.wi (lo := b) (hi := b + 1) ⟨by simp, fun b' o _ hne => World.cell?_setCell_other _ _ _ _ (fun e => by have := congrArg Addr.block e; simp only at this; omega), fun b' o _ _ => by rw [World.frozen?_setCell]⟩ (by omega)
/-- A box that lies there. -/
def Bx (b : Nat) (vs : List Value) (_ _ : Nat) (X : World) : Prop := (∀ i v, vs[i]? = some v → X.cell? ⟨b, i, none⟩ = some v) ∧ ∀ o, X.frozen? ⟨b, o, none⟩ = false
theorem Bx.dep (b : Nat) (vs : List Value) (l h : Nat) : Dep b (b + 1) (Bx b vs l h) := fun X X' _ _ h k =>
  ⟨fun i v hv => by rw [(h b i (Nat.le_refl _) (Nat.lt_succ_self _)).1]; exact k.1 i v hv, fun o => by rw [(h b o (Nat.le_refl _) (Nat.lt_succ_self _)).2]; exact k.2 o⟩
theorem Bx.new (X : World) (vs : List Value) (t : TypeId) : At X.heap.size (X.heap.size + 1) (Bx X.heap.size vs) (X.alloc (.cells vs.toArray t)) := by
  refine ⟨by simp, Bx.dep _ _ _ _, fun i v hv => ?_, fun o => ?_⟩
  · rw [World.cell?_alloc_mark]
    simpa using hv
  · have e := heap_alloc_new X (.cells vs.toArray t)
    unfold World.frozen?
    rw [e]
    simp
theorem Bx.newAt {X : World} {b : Nat} (hb : X.heap.size = b) (vs : List Value) (t : TypeId) : At b (b + 1) (Bx b vs) (X.alloc (.cells vs.toArray t)) := by
  subst hb
  exact Bx.new X vs t
theorem Bx.put {X : World} {b : Nat} {vs : List Value} (k : At b (b + 1) (Bx b vs) X) (i : Nat) (u : Value) (hi : i < vs.length) : At b (b + 1) (Bx b (vs.set i u)) (X.setCell ⟨b, i, none⟩ u) := by
  refine ⟨by simpa using k.le, Bx.dep _ _ _ _, fun j v hv => ?_, fun o => by rw [World.frozen?_setCell]; exact k.val.2 o⟩
  by_cases e : j = i
  · subst e
    rw [List.getElem?_set_self hi] at hv
    obtain rfl := Option.some.inj hv
    exact World.cell?_setCell_same _ _ _ (k.val.1 j (vs[j]) (List.getElem?_eq_getElem hi))
  · rw [List.getElem?_set_ne (fun q => e q.symm)] at hv
    rw [World.cell?_setCell_other _ _ _ _ (fun q => e (by have := congrArg Addr.off q; simpa using this.symm))]
    exact k.val.1 j v hv
theorem Wi.trans {lo hi : Nat} {X Y Z : World} (g : Wi lo hi X Y) (k : Wi lo hi Y Z) : Wi lo hi X Z :=
  ⟨Nat.le_trans g.size k.size, fun b o h1 h2 => by rw [k.cell b o (Nat.lt_of_lt_of_le h1 g.size) h2]; exact g.cell b o h1 h2, fun b o h1 h2 => by rw [k.frozen b o (Nat.lt_of_lt_of_le h1 g.size) h2]; exact g.frozen b o h1 h2⟩
theorem Wi.wide {lo hi l h : Nat} {X Y : World} (g : Wi lo hi X Y) (h1 : l ≤ lo) (h2 : hi ≤ h) : Wi l h X Y :=
  ⟨g.size, fun b o hb hd => g.cell b o hb (by omega), fun b o hb hd => g.frozen b o hb (by omega)⟩
end Go.Proofs.YtolkgnnjocmkdaaGreatDoor
/-
  A box that is written cell by cell.
-/
namespace Go.Proofs.YtolkgnnjocmkdaaGreatDoor
open Go.ChangeShapes Go.WideShapes Go.ChangeAt Go.RowKit
def putAll (X : World) (b : Nat) : Nat → List Value → World
  | _, [] => X
  | i, v :: vs => putAll (X.setCell ⟨b, i, none⟩ v) b (i + 1) vs
theorem Bx.putFrom {b : Nat} : ∀ (vs : List Value) (X : World) (i : Nat) (zs : List Value), zs.length = i + vs.length → At b (b + 1) (Bx b zs) X → At b (b + 1) (Bx b (zs.take i ++ vs)) (putAll X b i vs)
  | [], X, i, zs, hl, k => by
    rw [List.append_nil, List.take_of_length_le (by simp at hl; omega)]
    exact k
  | v :: vs, X, i, zs, hl, k => by
    have hi : i < zs.length := by rw [hl, List.length_cons]; omega
    have r := Bx.putFrom vs (X.setCell ⟨b, i, none⟩ v) (i + 1) (zs.set i v) (by rw [List.length_set, hl, List.length_cons]; omega) (Bx.put k i v hi)
    have e : (zs.set i v).take (i + 1) ++ vs = zs.take i ++ v :: vs := by
      rw [List.take_succ_eq_append_getElem (by rw [List.length_set]; exact hi), List.getElem_set_self, List.take_set_of_le (Nat.le_refl _)]
      simp
    rw [e] at r
    exact r
theorem Bx.putAll {b : Nat} {X : World} {zs : List Value} (k : At b (b + 1) (Bx b zs) X) (vs : List Value) (hl : zs.length = vs.length) : At b (b + 1) (Bx b vs) (putAll X b 0 vs) := by
  have r := Bx.putFrom vs X 0 zs (by omega) k
  simpa using r
theorem At.putAll {l h b : Nat} {C : Nat → Nat → World → Prop} (hd : b < l ∨ h ≤ b) : ∀ (vs : List Value) (i : Nat) {X : World}, At l h C X → At l h C (putAll X b i vs)
  | [], _, _, k => k
  | v :: vs, i, _, k => At.putAll hd vs (i + 1) (k.set v hd)
theorem below_putAll {base b : Nat} {w : World} (hb : base ≤ b) : ∀ (vs : List Value) (i : Nat) {X : World}, Below base w X → Below base w (putAll X b i vs)
  | [], _, _, k => k
  | v :: vs, i, _, k => below_putAll hb vs (i + 1) (k.setCell hb v)
end Go.Proofs.YtolkgnnjocmkdaaGreatDoor
/-
  The law of FetchFor, over contracts.
-/
namespace Go.Proofs.YtolkgnnjocmkdaaGreatDoor
open Go.ChangeShapes Go.WideShapes Go.ChangeAt Go.RowKit
set_option linter.unusedSimpArgs false in
set_option maxRecDepth 100000 in
set_option maxHeartbeats 32000000 in
theorem walk_Fetch (w : World) (qm qh qp : ByteArray) (qa : Option Addr) (qn qc : Nat) (ek : ByteArray) (es : Int) (ea : Option Addr) (en ec : Nat) (eb : Option Addr) (ebn ebc : Nat) (e1 e2 e3 e4 e5 : Int) (f1 f2 : Bool) (et : Option Addr) (etn etc : Nat) (ep : Int) (has : Bool) (rc : Int) (rm rh rp : ByteArray) (z1 z2 : Int) (CA1 : Nat → Nat → Nat → World → Prop) (CA2 : Nat → Nat → Nat → Nat → Nat → World → Prop) (CR MR : Option Addr → Nat → Nat → Nat → Nat → World → Prop) (k1 k2 q : Int) (HZ1 : Hid (∀ X, Below w.heap.size w X → Calls Tryz.prog 8 #[.agg #[.string qm, .string qh, .string qp, .slice qa qn qc], .int .i64 1048576] X fun e w' => e = .returned (.int .i64 z1) ∧ Below X.heap.size X w'))
    (HZ2 : Hid (¬ z1 < 0 → ∀ X, Below w.heap.size w X → Calls Tryz.prog 9 #[.agg #[.string ek, .int .i64 es, .slice ea en ec, .slice eb ebn ebc, .int .i64 e1, .int .i64 e2, .int .i64 e3, .int .i64 e4, .int .i64 e5, .bool f1, .bool f2, .slice et etn etc, .int .i64 ep], .int .i64 z1] X fun e w' => e = .returned (.int .i64 z2) ∧ Below X.heap.size X w'))
    (HT1 : Hid (¬ z1 < 0 → ¬ z2 < 0 → ∀ X, Below w.heap.size w X → Calls Tryz.prog 11 #[.agg #[.string qm, .string qh, .string qp, .slice qa qn qc]] X fun e w' => (∃ (K1 : Nat), e = .returned (.agg #[.string qm, .string qh, .string qp, .slice (some ⟨K1, 0, none⟩) qn qn]) ∧ At X.heap.size w'.heap.size (CA1 K1) w') ∧ Below X.heap.size X w'))
    (HQ1 : Hid (¬ z1 < 0 → ¬ z2 < 0 → ∀ X la ha lb hb (K1x : Nat) (K1y : Nat), At la ha (CA1 K1x) X → At lb hb (CA1 K1y) X → Calls Tryz.prog 15 #[.agg #[.string qm, .string qh, .string qp, .slice (some ⟨K1x, 0, none⟩) qn qn], .agg #[.string qm, .string qh, .string qp, .slice (some ⟨K1y, 0, none⟩) qn qn]] X fun e w' => e = .returned (.bool true) ∧ Below X.heap.size X w'))
    (HM1 : Hid (¬ z1 < 0 → ¬ z2 < 0 → ∀ X l h (K1 : Nat), At l h (CA1 K1) X → w.heap.size ≤ l → Calls Tryz.prog 17 #[.agg #[.string qm, .string qh, .string qp, .slice (some ⟨K1, 0, none⟩) qn qn], .int .i64 1] X fun e w' => e = .returned (.int .i64 k1) ∧ Wi l h X w' ∧ Below w.heap.size X w'))
    (HT2 : Hid (¬ z1 < 0 → ¬ z2 < 0 → ∀ X, Below w.heap.size w X → Calls Tryz.prog 12 #[.agg #[.string ek, .int .i64 es, .slice ea en ec, .slice eb ebn ebc, .int .i64 e1, .int .i64 e2, .int .i64 e3, .int .i64 e4, .int .i64 e5, .bool f1, .bool f2, .slice et etn etc, .int .i64 ep]] X fun e w' => (∃ (K2 : Nat) (D2 : Nat) (J2 : Nat), e = .returned (.agg #[.string ek, .int .i64 es, .slice (some ⟨K2, 0, none⟩) en en, .slice (some ⟨D2, 0, none⟩) ebn ebn, .int .i64 e1, .int .i64 e2, .int .i64 e3, .int .i64 e4, .int .i64 e5, .bool f1, .bool f2, .slice (some ⟨J2, 0, none⟩) etn etn, .int .i64 ep]) ∧ At X.heap.size w'.heap.size (CA2 K2 D2 J2) w') ∧ Below X.heap.size X w'))
    (HQ2 : Hid (¬ z1 < 0 → ¬ z2 < 0 → ∀ X la ha lb hb (K2x : Nat) (D2x : Nat) (J2x : Nat) (K2y : Nat) (D2y : Nat) (J2y : Nat), At la ha (CA2 K2x D2x J2x) X → At lb hb (CA2 K2y D2y J2y) X → Calls Tryz.prog 16 #[.agg #[.string ek, .int .i64 es, .slice (some ⟨K2x, 0, none⟩) en en, .slice (some ⟨D2x, 0, none⟩) ebn ebn, .int .i64 e1, .int .i64 e2, .int .i64 e3, .int .i64 e4, .int .i64 e5, .bool f1, .bool f2, .slice (some ⟨J2x, 0, none⟩) etn etn, .int .i64 ep], .agg #[.string ek, .int .i64 es, .slice (some ⟨K2y, 0, none⟩) en en, .slice (some ⟨D2y, 0, none⟩) ebn ebn, .int .i64 e1, .int .i64 e2, .int .i64 e3, .int .i64 e4, .int .i64 e5, .bool f1, .bool f2, .slice (some ⟨J2y, 0, none⟩) etn etn, .int .i64 ep]] X fun e w' => e = .returned (.bool true) ∧ Below X.heap.size X w'))
    (HM2 : Hid (¬ z1 < 0 → ¬ z2 < 0 → ∀ X l h (K2 : Nat) (D2 : Nat) (J2 : Nat), At l h (CA2 K2 D2 J2) X → w.heap.size ≤ l → Calls Tryz.prog 18 #[.agg #[.string ek, .int .i64 es, .slice (some ⟨K2, 0, none⟩) en en, .slice (some ⟨D2, 0, none⟩) ebn ebn, .int .i64 e1, .int .i64 e2, .int .i64 e3, .int .i64 e4, .int .i64 e5, .bool f1, .bool f2, .slice (some ⟨J2, 0, none⟩) etn etn, .int .i64 ep], .int .i64 k1] X fun e w' => e = .returned (.int .i64 k2) ∧ Wi l h X w' ∧ Below w.heap.size X w'))
    (HF : Hid (¬ z1 < 0 → ¬ z2 < 0 → ∀ X l1 h1 (K1 : Nat) l2 h2 (K2 : Nat) (D2 : Nat) (J2 : Nat), Below w.heap.size w X → At l1 h1 (CA1 K1) X → At l2 h2 (CA2 K2 D2 J2) X → Calls Tryz.prog 10 #[.agg #[.string qm, .string qh, .string qp, .slice (some ⟨K1, 0, none⟩) qn qn], .agg #[.string ek, .int .i64 es, .slice (some ⟨K2, 0, none⟩) en en, .slice (some ⟨D2, 0, none⟩) ebn ebn, .int .i64 e1, .int .i64 e2, .int .i64 e3, .int .i64 e4, .int .i64 e5, .bool f1, .bool f2, .slice (some ⟨J2, 0, none⟩) etn etn, .int .i64 ep], .bool has] X fun e w' => (∃ (rar : Option Addr) (rnr : Nat) (rkr : Nat), e = .returned (.agg #[.int .i64 rc, .string rm, .string rh, .string rp, .slice rar rnr rkr]) ∧ At X.heap.size w'.heap.size (CR rar rnr rkr) w') ∧ Below X.heap.size X w'))
    (HG : Hid (¬ z1 < 0 → ¬ z2 < 0 → ∀ X l1 h1 (K1 : Nat) l2 h2 (K2 : Nat) (D2 : Nat) (J2 : Nat), Below w.heap.size w X → At l1 h1 (CA1 K1) X → At l2 h2 (CA2 K2 D2 J2) X → Calls Tryz.prog 13 #[.agg #[.string qm, .string qh, .string qp, .slice (some ⟨K1, 0, none⟩) qn qn], .agg #[.string ek, .int .i64 es, .slice (some ⟨K2, 0, none⟩) en en, .slice (some ⟨D2, 0, none⟩) ebn ebn, .int .i64 e1, .int .i64 e2, .int .i64 e3, .int .i64 e4, .int .i64 e5, .bool f1, .bool f2, .slice (some ⟨J2, 0, none⟩) etn etn, .int .i64 ep], .bool has] X fun e w' => (∃ (rar : Option Addr) (rnr : Nat) (rkr : Nat), e = .returned (.agg #[.int .i64 rc, .string rm, .string rh, .string rp, .slice rar rnr rkr]) ∧ At X.heap.size w'.heap.size (CR rar rnr rkr) w') ∧ Below X.heap.size X w'))
    (HEQ : Hid (¬ z1 < 0 → ¬ z2 < 0 → ∀ X la ha lb hb (rax : Option Addr) (rnx : Nat) (rkx : Nat) (ray : Option Addr) (rny : Nat) (rky : Nat), At la ha (CR rax rnx rkx) X → At lb hb (CR ray rny rky) X → Calls Tryz.prog 14 #[.agg #[.int .i64 rc, .string rm, .string rh, .string rp, .slice rax rnx rkx], .agg #[.int .i64 rc, .string rm, .string rh, .string rp, .slice ray rny rky]] X fun e w' => e = .returned (.bool true) ∧ Below X.heap.size X w'))
    (HMR : Hid (¬ z1 < 0 → ¬ z2 < 0 → ∀ X l h (rar : Option Addr) (rnr : Nat) (rkr : Nat), Below w.heap.size w X → At l h (CR rar rnr rkr) X → w.heap.size ≤ l → Calls Tryz.prog 19 #[.agg #[.int .i64 rc, .string rm, .string rh, .string rp, .slice rar rnr rkr], .int .i64 1] X fun e w' => e = .returned (.int .i64 q) ∧ At l h (MR rar rnr rkr) w' ∧ Wi l h X w' ∧ Below w.heap.size X w'))
    (HHR : Hid (¬ z1 < 0 → ¬ z2 < 0 → ∀ X l h (rar : Option Addr) (rnr : Nat) (rkr : Nat), At l h (MR rar rnr rkr) X → Calls Tryz.prog 20 #[.agg #[.int .i64 rc, .string rm, .string rh, .string rp, .slice rar rnr rkr], .int .i64 1] X fun e w' => e = .returned (.int .i64 q) ∧ Below X.heap.size X w'))
    (hk0 : ¬ k2 < 0) (hq0 : ¬ q < 0) :
    Calls Tryz.prog 3 #[.agg #[.string qm, .string qh, .string qp, .slice qa qn qc], .agg #[.string ek, .int .i64 es, .slice ea en ec, .slice eb ebn ebc, .int .i64 e1, .int .i64 e2, .int .i64 e3, .int .i64 e4, .int .i64 e5, .bool f1, .bool f2, .slice et etn etc, .int .i64 ep], .bool has] w fun e w' => e = .returned (.bool true) ∧ Below w.heap.size w w' := by
  obtain ⟨W, hW⟩ : ∃ W, W = ((w.alloc (.cells #[.string qm, .string qh, .string qp, .slice qa qn qc] 24)).alloc (.cells #[.string ek, .int .i64 es, .slice ea en ec, .slice eb ebn ebc, .int .i64 e1, .int .i64 e2, .int .i64 e3, .int .i64 e4, .int .i64 e5, .bool f1, .bool f2, .slice et etn etc, .int .i64 ep] 30)) := ⟨_, rfl⟩
  have HW : Hid (W = ((w.alloc (.cells #[.string qm, .string qh, .string qp, .slice qa qn qc] 24)).alloc (.cells #[.string ek, .int .i64 es, .slice ea en ec, .slice eb ebn ebc, .int .i64 e1, .int .i64 e2, .int .i64 e3, .int .i64 e4, .int .i64 e5, .bool f1, .bool f2, .slice et etn etc, .int .i64 ep] 30))) := hW
  have KW : Hid (Below w.heap.size w W) := by rw [hW]; exact (((Below.refl _ _).alloc (Nat.le_refl _) _).alloc (by simp) _)
  have SW : Hid (w.heap.size + 2 ≤ W.heap.size) := by rw [hW]; show _ ≤ _; simp
  have FA1_0 : Hid (At w.heap.size (w.heap.size + 1) (Bx w.heap.size [.string qm, .string qh, .string qp, .slice qa qn qc]) W) := by rw [hW]; exact (Bx.newAt rfl [.string qm, .string qh, .string qp, .slice qa qn qc] _).al _
  have FA2_0 : Hid (At (w.heap.size + 1) ((w.heap.size + 1) + 1) (Bx (w.heap.size + 1) [.string ek, .int .i64 es, .slice ea en ec, .slice eb ebn ebc, .int .i64 e1, .int .i64 e2, .int .i64 e3, .int .i64 e4, .int .i64 e5, .bool f1, .bool f2, .slice et etn etc, .int .i64 ep]) W) := by rw [hW]; exact Bx.newAt (by simp) [.string ek, .int .i64 es, .slice ea en ec, .slice eb ebn ebc, .int .i64 e1, .int .i64 e2, .int .i64 e3, .int .i64 e4, .int .i64 e5, .bool f1, .bool f2, .slice et etn etc, .int .i64 ep] _
  clear hW
  go_enter Tryz.func3, Tryz.ntmps3
  go_wp2_with fail
  rw [← HW.out]
  clear HW
  refine (HZ1.out  _ KW.out).mono ?_
  rintro e0 w1 ⟨rfl, hb⟩
  have K2 : Hid (Below w.heap.size w w1) := KW.out.trans (hb.mono KW.out.size)
  have F3 : Hid (At w.heap.size (w.heap.size + 1) (Bx w.heap.size [.string qm, .string qh, .string qp, .slice qa qn qc]) w1) := FA1_0.out.keep hb
  have F4 : Hid (At (w.heap.size + 1) ((w.heap.size + 1) + 1) (Bx (w.heap.size + 1) [.string ek, .int .i64 es, .slice ea en ec, .slice eb ebn ebc, .int .i64 e1, .int .i64 e2, .int .i64 e3, .int .i64 e4, .int .i64 e5, .bool f1, .bool f2, .slice et etn etc, .int .i64 ep]) w1) := FA2_0.out.keep hb
  clear KW FA1_0 FA2_0 hb
  clear HZ1
  by_cases cz1 : z1 < 0
  · clear HT1 HQ1 HM1 HT2 HQ2 HM2 HF HG HEQ HMR HHR HZ2 F3 F4 SW
    go_wp2_with fail
    go_ret
    exact ⟨rfl, K2.out⟩
  have p0_0 := F4.out.val.1 0 _ rfl
  have p0_1 := F4.out.val.1 1 _ rfl
  have p0_2 := F4.out.val.1 2 _ rfl
  have p0_3 := F4.out.val.1 3 _ rfl
  have p0_4 := F4.out.val.1 4 _ rfl
  have p0_5 := F4.out.val.1 5 _ rfl
  have p0_6 := F4.out.val.1 6 _ rfl
  have p0_7 := F4.out.val.1 7 _ rfl
  have p0_8 := F4.out.val.1 8 _ rfl
  have p0_9 := F4.out.val.1 9 _ rfl
  have p0_10 := F4.out.val.1 10 _ rfl
  have p0_11 := F4.out.val.1 11 _ rfl
  have p0_12 := F4.out.val.1 12 _ rfl
  go_wp2_with fail
  refine (HZ2.out (by omega) _ K2.out).mono ?_
  rintro e0 w5 ⟨rfl, hb⟩
  clear p0_0 p0_1 p0_2 p0_3 p0_4 p0_5 p0_6 p0_7 p0_8 p0_9 p0_10 p0_11 p0_12
  have K6 : Hid (Below w.heap.size w w5) := K2.out.trans (hb.mono K2.out.size)
  have F7 : Hid (At w.heap.size (w.heap.size + 1) (Bx w.heap.size [.string qm, .string qh, .string qp, .slice qa qn qc]) w5) := F3.out.keep hb
  have F8 : Hid (At (w.heap.size + 1) ((w.heap.size + 1) + 1) (Bx (w.heap.size + 1) [.string ek, .int .i64 es, .slice ea en ec, .slice eb ebn ebc, .int .i64 e1, .int .i64 e2, .int .i64 e3, .int .i64 e4, .int .i64 e5, .bool f1, .bool f2, .slice et etn etc, .int .i64 ep]) w5) := F4.out.keep hb
  clear K2 F3 F4 hb
  clear HZ2
  by_cases cz2 : z2 < 0
  · clear HT1 HQ1 HM1 HT2 HQ2 HM2 HF HG HEQ HMR HHR F7 F8 SW
    go_wp2_with fail
    go_ret
    exact ⟨rfl, K6.out⟩
  replace HT1 := hidL (HT1.out (by omega) (by omega))
  replace HQ1 := hidL (HQ1.out (by omega) (by omega))
  replace HM1 := hidL (HM1.out (by omega) (by omega))
  replace HT2 := hidL (HT2.out (by omega) (by omega))
  replace HQ2 := hidL (HQ2.out (by omega) (by omega))
  replace HM2 := hidL (HM2.out (by omega) (by omega))
  replace HF := hidL (HF.out (by omega) (by omega))
  replace HG := hidL (HG.out (by omega) (by omega))
  replace HEQ := hidL (HEQ.out (by omega) (by omega))
  replace HMR := hidL (HMR.out (by omega) (by omega))
  replace HHR := hidL (HHR.out (by omega) (by omega))
  go_upto_region 8 with fail
  go_cut [8] from 26 to 31 (fun sx wx => ∃ (X0 ls hs : Nat) (ras : Option Addr) (rns : Nat) (rks : Nat), sx = .pointer (some ⟨X0, 0, none⟩) ∧ Below w5.heap.size w5 wx ∧ At X0 (X0 + 1) (Bx X0 [.int .i64 rc, .string rm, .string rh, .string rp, .slice ras rns rks]) wx ∧ At ls hs (CR ras rns rks) wx ∧ (X0 < ls ∨ hs ≤ X0) ∧ w5.heap.size ≤ X0 ∧ w5.heap.size ≤ ls ∧ ls ≤ hs)
  case first =>
    have HKS : Hid (∀ X, Below w5.heap.size w5 X → X.cell? ⟨w.heap.size, 0, none⟩ = some (.string qm) ∧ X.cell? ⟨w.heap.size, 1, none⟩ = some (.string qh) ∧ X.cell? ⟨w.heap.size, 2, none⟩ = some (.string qp) ∧ X.cell? ⟨w.heap.size, 3, none⟩ = some (.slice qa qn qc) ∧ X.cell? ⟨(w.heap.size + 1), 0, none⟩ = some (.string ek) ∧ X.cell? ⟨(w.heap.size + 1), 1, none⟩ = some (.int .i64 es) ∧ X.cell? ⟨(w.heap.size + 1), 2, none⟩ = some (.slice ea en ec) ∧ X.cell? ⟨(w.heap.size + 1), 3, none⟩ = some (.slice eb ebn ebc) ∧ X.cell? ⟨(w.heap.size + 1), 4, none⟩ = some (.int .i64 e1) ∧ X.cell? ⟨(w.heap.size + 1), 5, none⟩ = some (.int .i64 e2) ∧ X.cell? ⟨(w.heap.size + 1), 6, none⟩ = some (.int .i64 e3) ∧ X.cell? ⟨(w.heap.size + 1), 7, none⟩ = some (.int .i64 e4) ∧ X.cell? ⟨(w.heap.size + 1), 8, none⟩ = some (.int .i64 e5) ∧ X.cell? ⟨(w.heap.size + 1), 9, none⟩ = some (.bool f1) ∧ X.cell? ⟨(w.heap.size + 1), 10, none⟩ = some (.bool f2) ∧ X.cell? ⟨(w.heap.size + 1), 11, none⟩ = some (.slice et etn etc) ∧ X.cell? ⟨(w.heap.size + 1), 12, none⟩ = some (.int .i64 ep)) := fun X hX => ⟨(F7.out.keep hX).val.1 0 _ rfl, (F7.out.keep hX).val.1 1 _ rfl, (F7.out.keep hX).val.1 2 _ rfl, (F7.out.keep hX).val.1 3 _ rfl, (F8.out.keep hX).val.1 0 _ rfl, (F8.out.keep hX).val.1 1 _ rfl, (F8.out.keep hX).val.1 2 _ rfl, (F8.out.keep hX).val.1 3 _ rfl, (F8.out.keep hX).val.1 4 _ rfl, (F8.out.keep hX).val.1 5 _ rfl, (F8.out.keep hX).val.1 6 _ rfl, (F8.out.keep hX).val.1 7 _ rfl, (F8.out.keep hX).val.1 8 _ rfl, (F8.out.keep hX).val.1 9 _ rfl, (F8.out.keep hX).val.1 10 _ rfl, (F8.out.keep hX).val.1 11 _ rfl, (F8.out.keep hX).val.1 12 _ rfl⟩
    have KX : Hid (∀ X, Below w5.heap.size w5 X → Below w.heap.size w X) := fun X hX => K6.out.trans (hX.mono K6.out.size)
    have B0 : Hid (Below w5.heap.size w5 w5.drew) := (Below.refl _ _).drew
    have B0A : Hid (Below w5.heap.size w5 (w5.alloc (.cells #[.int .i64 0, .string ⟨#[]⟩, .string ⟨#[]⟩, .string ⟨#[]⟩, .slice none 0 0] 37)).drew) := ((Below.refl _ _).alloc (Nat.le_refl _) _).drew
    have ZA0 : Hid (At w5.heap.size (w5.heap.size + 1) (Bx w5.heap.size [.int .i64 0, .string ⟨#[]⟩, .string ⟨#[]⟩, .string ⟨#[]⟩, .slice none 0 0]) (w5.alloc (.cells #[.int .i64 0, .string ⟨#[]⟩, .string ⟨#[]⟩, .string ⟨#[]⟩, .slice none 0 0] 37)).drew) := (Bx.newAt rfl [.int .i64 0, .string ⟨#[]⟩, .string ⟨#[]⟩, .string ⟨#[]⟩, .slice none 0 0] _).keep ((Below.refl _ _).drew)
    go_region_held3 (fun X => X.cell? ⟨w.heap.size, 0, none⟩ = some (.string qm) ∧ X.cell? ⟨w.heap.size, 1, none⟩ = some (.string qh) ∧ X.cell? ⟨w.heap.size, 2, none⟩ = some (.string qp) ∧ X.cell? ⟨w.heap.size, 3, none⟩ = some (.slice qa qn qc) ∧ X.cell? ⟨(w.heap.size + 1), 0, none⟩ = some (.string ek) ∧ X.cell? ⟨(w.heap.size + 1), 1, none⟩ = some (.int .i64 es) ∧ X.cell? ⟨(w.heap.size + 1), 2, none⟩ = some (.slice ea en ec) ∧ X.cell? ⟨(w.heap.size + 1), 3, none⟩ = some (.slice eb ebn ebc) ∧ X.cell? ⟨(w.heap.size + 1), 4, none⟩ = some (.int .i64 e1) ∧ X.cell? ⟨(w.heap.size + 1), 5, none⟩ = some (.int .i64 e2) ∧ X.cell? ⟨(w.heap.size + 1), 6, none⟩ = some (.int .i64 e3) ∧ X.cell? ⟨(w.heap.size + 1), 7, none⟩ = some (.int .i64 e4) ∧ X.cell? ⟨(w.heap.size + 1), 8, none⟩ = some (.int .i64 e5) ∧ X.cell? ⟨(w.heap.size + 1), 9, none⟩ = some (.bool f1) ∧ X.cell? ⟨(w.heap.size + 1), 10, none⟩ = some (.bool f2) ∧ X.cell? ⟨(w.heap.size + 1), 11, none⟩ = some (.slice et etn etc) ∧ X.cell? ⟨(w.heap.size + 1), 12, none⟩ = some (.int .i64 ep))
      (first | ((with_reducible refine HKS.out _ ?_); (with_reducible exact BD.out)) | ((with_reducible refine HKS.out _ ?_); (with_reducible exact B3.out)) | ((with_reducible refine HKS.out _ ?_); (with_reducible exact B2.out)) | ((with_reducible refine HKS.out _ ?_); (with_reducible exact B1.out)) | ((with_reducible refine HKS.out _ ?_); (with_reducible exact B0.out)) | ((with_reducible refine HKS.out _ ?_); (with_reducible exact B0A.out)) | ((with_reducible refine HKS.out _ ?_); (with_reducible exact B3.out.alloc B3.out.size _)) | ((with_reducible refine HKS.out _ ?_); (with_reducible exact B2.out.alloc B2.out.size _)) | ((with_reducible refine HKS.out _ ?_); (with_reducible exact B1.out.alloc B1.out.size _)) | ((with_reducible refine HKS.out _ ?_); (with_reducible exact (Below.refl _ _).alloc (Nat.le_refl _) _)))
      (first
        | (go_at_call 11; first
          | (have HBB : Hid (Below w5.heap.size w5 w5.drew) := B0.out; (with_reducible refine (HT1.out w5.drew (KX.out _ HBB.out)).mono ?_); rintro e0 us1 ⟨⟨K1sc, rfl, ca⟩, hb⟩; have C1 : Hid (At w5.drew.heap.size us1.heap.size (CA1 K1sc) us1) := ca; clear ca; have B1 : Hid (Below w5.heap.size w5 us1) := HBB.out.trans (hb.mono HBB.out.size); clear hb; clear HBB)
          | (have HBB : Hid (Below w5.heap.size w5 (w5.alloc (.cells #[.int .i64 0, .string ⟨#[]⟩, .string ⟨#[]⟩, .string ⟨#[]⟩, .slice none 0 0] 37)).drew) := B0A.out; (with_reducible refine (HT1.out (w5.alloc (.cells #[.int .i64 0, .string ⟨#[]⟩, .string ⟨#[]⟩, .string ⟨#[]⟩, .slice none 0 0] 37)).drew (KX.out _ HBB.out)).mono ?_); rintro e0 us1 ⟨⟨K1sc, rfl, ca⟩, hb⟩; have C1 : Hid (At (w5.alloc (.cells #[.int .i64 0, .string ⟨#[]⟩, .string ⟨#[]⟩, .string ⟨#[]⟩, .slice none 0 0] 37)).drew.heap.size us1.heap.size (CA1 K1sc) us1) := ca; clear ca; have B1 : Hid (Below w5.heap.size w5 us1) := HBB.out.trans (hb.mono HBB.out.size); have Z1x1 := hidL (ZA0.out.keep hb); clear hb; clear HBB))
        | (go_at_call 12; first
          | (have hz := Z1x1.out; have HBB : Hid (Below w5.heap.size w5 us1) := B1.out; (with_reducible refine (HT2.out us1 (KX.out _ HBB.out)).mono ?_); rintro e0 us2 ⟨⟨K2sc, D2sc, J2sc, rfl, ca⟩, hb⟩; have C2 : Hid (At us1.heap.size us2.heap.size (CA2 K2sc D2sc J2sc) us2) := ca; clear ca; have C1x2 := hidL (C1.out.keep hb); have B2 : Hid (Below w5.heap.size w5 us2) := HBB.out.trans (hb.mono HBB.out.size); have Z1x2 := hidL (hz.keep hb); clear hb; clear HBB)
          | (have HBB : Hid (Below w5.heap.size w5 us1) := B1.out; (with_reducible refine (HT2.out us1 (KX.out _ HBB.out)).mono ?_); rintro e0 us2 ⟨⟨K2sc, D2sc, J2sc, rfl, ca⟩, hb⟩; have C2 : Hid (At us1.heap.size us2.heap.size (CA2 K2sc D2sc J2sc) us2) := ca; clear ca; have C1x2 := hidL (C1.out.keep hb); have B2 : Hid (Below w5.heap.size w5 us2) := HBB.out.trans (hb.mono HBB.out.size); clear hb; clear HBB)
          | (have HBB : Hid (Below w5.heap.size w5 (us1.alloc (.cells #[.int .i64 0, .string ⟨#[]⟩, .string ⟨#[]⟩, .string ⟨#[]⟩, .slice none 0 0] 37))) := (B1.out.alloc B1.out.size _); (with_reducible refine (HT2.out (us1.alloc (.cells #[.int .i64 0, .string ⟨#[]⟩, .string ⟨#[]⟩, .string ⟨#[]⟩, .slice none 0 0] 37)) (KX.out _ HBB.out)).mono ?_); rintro e0 us2 ⟨⟨K2sc, D2sc, J2sc, rfl, ca⟩, hb⟩; have C2 : Hid (At (us1.alloc (.cells #[.int .i64 0, .string ⟨#[]⟩, .string ⟨#[]⟩, .string ⟨#[]⟩, .slice none 0 0] 37)).heap.size us2.heap.size (CA2 K2sc D2sc J2sc) us2) := ca; clear ca; have C1x2 := hidL ((C1.out.al (.cells #[.int .i64 0, .string ⟨#[]⟩, .string ⟨#[]⟩, .string ⟨#[]⟩, .slice none 0 0] 37)).keep hb); have B2 : Hid (Below w5.heap.size w5 us2) := HBB.out.trans (hb.mono HBB.out.size); have Z2x2 := hidL ((Bx.newAt (X := us1) rfl [.int .i64 0, .string ⟨#[]⟩, .string ⟨#[]⟩, .string ⟨#[]⟩, .slice none 0 0] 37).keep hb); clear hb; clear HBB))
        | (go_at_call 10; first
          | (have hz := Z1x2.out; have HBB : Hid (Below w5.heap.size w5 us2) := B2.out; (with_reducible refine (HF.out us2 _ _ _ _ _ _ _ _ (KX.out _ HBB.out) C1x2.out C2.out).mono ?_); rintro e0 us3 ⟨⟨ras, rns, rks, rfl, cr⟩, hb⟩; have B3 : Hid (Below w5.heap.size w5 us3) := HBB.out.trans (hb.mono HBB.out.size); have Z1x3 := hidL (hz.keep hb); have hXl : w5.heap.size < us2.heap.size := (Nat.lt_of_lt_of_le (Nat.lt_succ_self _) hz.le); have hXw : w5.heap.size ≤ w5.heap.size := Nat.le_refl _; have BD : Hid (Below w5.heap.size w5 (((((us3.setCell ⟨w5.heap.size, 0, none⟩ (.int .i64 rc)).setCell ⟨w5.heap.size, 1, none⟩ (.string rm)).setCell ⟨w5.heap.size, 2, none⟩ (.string rh)).setCell ⟨w5.heap.size, 3, none⟩ (.string rp)).setCell ⟨w5.heap.size, 4, none⟩ (.slice ras rns rks))) := below_putAll hXw [.int .i64 rc, .string rm, .string rh, .string rp, .slice ras rns rks] 0 B3.out; have FIN := hidL (show Below w5.heap.size w5 (((((us3.setCell ⟨w5.heap.size, 0, none⟩ (.int .i64 rc)).setCell ⟨w5.heap.size, 1, none⟩ (.string rm)).setCell ⟨w5.heap.size, 2, none⟩ (.string rh)).setCell ⟨w5.heap.size, 3, none⟩ (.string rp)).setCell ⟨w5.heap.size, 4, none⟩ (.slice ras rns rks)) ∧ At w5.heap.size (w5.heap.size + 1) (Bx w5.heap.size [.int .i64 rc, .string rm, .string rh, .string rp, .slice ras rns rks]) (((((us3.setCell ⟨w5.heap.size, 0, none⟩ (.int .i64 rc)).setCell ⟨w5.heap.size, 1, none⟩ (.string rm)).setCell ⟨w5.heap.size, 2, none⟩ (.string rh)).setCell ⟨w5.heap.size, 3, none⟩ (.string rp)).setCell ⟨w5.heap.size, 4, none⟩ (.slice ras rns rks)) ∧ At us2.heap.size us3.heap.size (CR ras rns rks) (((((us3.setCell ⟨w5.heap.size, 0, none⟩ (.int .i64 rc)).setCell ⟨w5.heap.size, 1, none⟩ (.string rm)).setCell ⟨w5.heap.size, 2, none⟩ (.string rh)).setCell ⟨w5.heap.size, 3, none⟩ (.string rp)).setCell ⟨w5.heap.size, 4, none⟩ (.slice ras rns rks)) ∧ (w5.heap.size < us2.heap.size ∨ us3.heap.size ≤ w5.heap.size) ∧ w5.heap.size ≤ w5.heap.size ∧ w5.heap.size ≤ us2.heap.size ∧ us2.heap.size ≤ us3.heap.size from ⟨BD.out, Bx.putAll Z1x3.out [.int .i64 rc, .string rm, .string rh, .string rp, .slice ras rns rks] rfl, At.putAll (.inl hXl) [.int .i64 rc, .string rm, .string rh, .string rp, .slice ras rns rks] 0 cr, .inl hXl, hXw, HBB.out.size, hb.size⟩); have z0 := Z1x3.out.val.1 0 _ rfl; have zf0 := Z1x3.out.val.2 0; have z1 := Z1x3.out.val.1 1 _ rfl; have zf1 := Z1x3.out.val.2 1; have z2 := Z1x3.out.val.1 2 _ rfl; have zf2 := Z1x3.out.val.2 2; have z3 := Z1x3.out.val.1 3 _ rfl; have zf3 := Z1x3.out.val.2 3; have z4 := Z1x3.out.val.1 4 _ rfl; have zf4 := Z1x3.out.val.2 4; clear hXl hXw cr hb; clear HBB)
          | (have hz := Z2x2.out; have HBB : Hid (Below w5.heap.size w5 us2) := B2.out; (with_reducible refine (HF.out us2 _ _ _ _ _ _ _ _ (KX.out _ HBB.out) C1x2.out C2.out).mono ?_); rintro e0 us3 ⟨⟨ras, rns, rks, rfl, cr⟩, hb⟩; have B3 : Hid (Below w5.heap.size w5 us3) := HBB.out.trans (hb.mono HBB.out.size); have Z2x3 := hidL (hz.keep hb); have hXl : us1.heap.size < us2.heap.size := (Nat.lt_of_lt_of_le (Nat.lt_succ_self _) hz.le); have hXw : w5.heap.size ≤ us1.heap.size := B1.out.size; have BD : Hid (Below w5.heap.size w5 (((((us3.setCell ⟨us1.heap.size, 0, none⟩ (.int .i64 rc)).setCell ⟨us1.heap.size, 1, none⟩ (.string rm)).setCell ⟨us1.heap.size, 2, none⟩ (.string rh)).setCell ⟨us1.heap.size, 3, none⟩ (.string rp)).setCell ⟨us1.heap.size, 4, none⟩ (.slice ras rns rks))) := below_putAll hXw [.int .i64 rc, .string rm, .string rh, .string rp, .slice ras rns rks] 0 B3.out; have FIN := hidL (show Below w5.heap.size w5 (((((us3.setCell ⟨us1.heap.size, 0, none⟩ (.int .i64 rc)).setCell ⟨us1.heap.size, 1, none⟩ (.string rm)).setCell ⟨us1.heap.size, 2, none⟩ (.string rh)).setCell ⟨us1.heap.size, 3, none⟩ (.string rp)).setCell ⟨us1.heap.size, 4, none⟩ (.slice ras rns rks)) ∧ At us1.heap.size (us1.heap.size + 1) (Bx us1.heap.size [.int .i64 rc, .string rm, .string rh, .string rp, .slice ras rns rks]) (((((us3.setCell ⟨us1.heap.size, 0, none⟩ (.int .i64 rc)).setCell ⟨us1.heap.size, 1, none⟩ (.string rm)).setCell ⟨us1.heap.size, 2, none⟩ (.string rh)).setCell ⟨us1.heap.size, 3, none⟩ (.string rp)).setCell ⟨us1.heap.size, 4, none⟩ (.slice ras rns rks)) ∧ At us2.heap.size us3.heap.size (CR ras rns rks) (((((us3.setCell ⟨us1.heap.size, 0, none⟩ (.int .i64 rc)).setCell ⟨us1.heap.size, 1, none⟩ (.string rm)).setCell ⟨us1.heap.size, 2, none⟩ (.string rh)).setCell ⟨us1.heap.size, 3, none⟩ (.string rp)).setCell ⟨us1.heap.size, 4, none⟩ (.slice ras rns rks)) ∧ (us1.heap.size < us2.heap.size ∨ us3.heap.size ≤ us1.heap.size) ∧ w5.heap.size ≤ us1.heap.size ∧ w5.heap.size ≤ us2.heap.size ∧ us2.heap.size ≤ us3.heap.size from ⟨BD.out, Bx.putAll Z2x3.out [.int .i64 rc, .string rm, .string rh, .string rp, .slice ras rns rks] rfl, At.putAll (.inl hXl) [.int .i64 rc, .string rm, .string rh, .string rp, .slice ras rns rks] 0 cr, .inl hXl, hXw, HBB.out.size, hb.size⟩); have z0 := Z2x3.out.val.1 0 _ rfl; have zf0 := Z2x3.out.val.2 0; have z1 := Z2x3.out.val.1 1 _ rfl; have zf1 := Z2x3.out.val.2 1; have z2 := Z2x3.out.val.1 2 _ rfl; have zf2 := Z2x3.out.val.2 2; have z3 := Z2x3.out.val.1 3 _ rfl; have zf3 := Z2x3.out.val.2 3; have z4 := Z2x3.out.val.1 4 _ rfl; have zf4 := Z2x3.out.val.2 4; clear hXl hXw cr hb; clear HBB)
          | (have HBB : Hid (Below w5.heap.size w5 us2) := B2.out; (with_reducible refine (HF.out us2 _ _ _ _ _ _ _ _ (KX.out _ HBB.out) C1x2.out C2.out).mono ?_); rintro e0 us3 ⟨⟨ras, rns, rks, rfl, cr⟩, hb⟩; have B3 : Hid (Below w5.heap.size w5 us3) := HBB.out.trans (hb.mono HBB.out.size); have BD : Hid (Below w5.heap.size w5 (us3.alloc (.cells #[.int .i64 rc, .string rm, .string rh, .string rp, .slice ras rns rks] 37))) := B3.out.alloc B3.out.size _; have FIN := hidL (show Below w5.heap.size w5 (us3.alloc (.cells #[.int .i64 rc, .string rm, .string rh, .string rp, .slice ras rns rks] 37)) ∧ At us3.heap.size (us3.heap.size + 1) (Bx us3.heap.size [.int .i64 rc, .string rm, .string rh, .string rp, .slice ras rns rks]) (us3.alloc (.cells #[.int .i64 rc, .string rm, .string rh, .string rp, .slice ras rns rks] 37)) ∧ At us2.heap.size us3.heap.size (CR ras rns rks) (us3.alloc (.cells #[.int .i64 rc, .string rm, .string rh, .string rp, .slice ras rns rks] 37)) ∧ (us3.heap.size < us2.heap.size ∨ us3.heap.size ≤ us3.heap.size) ∧ w5.heap.size ≤ us3.heap.size ∧ w5.heap.size ≤ us2.heap.size ∧ us2.heap.size ≤ us3.heap.size from ⟨BD.out, Bx.newAt rfl [.int .i64 rc, .string rm, .string rh, .string rp, .slice ras rns rks] _, cr.al _, .inr (Nat.le_refl _), B3.out.size, HBB.out.size, hb.size⟩); clear cr hb; clear HBB)
          | (have HBB : Hid (Below w5.heap.size w5 (us2.alloc (.cells #[.int .i64 0, .string ⟨#[]⟩, .string ⟨#[]⟩, .string ⟨#[]⟩, .slice none 0 0] 37))) := (B2.out.alloc B2.out.size _); (with_reducible refine (HF.out (us2.alloc (.cells #[.int .i64 0, .string ⟨#[]⟩, .string ⟨#[]⟩, .string ⟨#[]⟩, .slice none 0 0] 37)) _ _ _ _ _ _ _ _ (KX.out _ HBB.out) (C1x2.out.al (.cells #[.int .i64 0, .string ⟨#[]⟩, .string ⟨#[]⟩, .string ⟨#[]⟩, .slice none 0 0] 37)) (C2.out.al (.cells #[.int .i64 0, .string ⟨#[]⟩, .string ⟨#[]⟩, .string ⟨#[]⟩, .slice none 0 0] 37))).mono ?_); rintro e0 us3 ⟨⟨ras, rns, rks, rfl, cr⟩, hb⟩; have B3 : Hid (Below w5.heap.size w5 us3) := HBB.out.trans (hb.mono HBB.out.size); have Z3x3 := hidL ((Bx.newAt (X := us2) rfl [.int .i64 0, .string ⟨#[]⟩, .string ⟨#[]⟩, .string ⟨#[]⟩, .slice none 0 0] 37).keep hb); have hXl : us2.heap.size < (us2.alloc (.cells #[.int .i64 0, .string ⟨#[]⟩, .string ⟨#[]⟩, .string ⟨#[]⟩, .slice none 0 0] 37)).heap.size := (by simp); have hXw : w5.heap.size ≤ us2.heap.size := B2.out.size; have BD : Hid (Below w5.heap.size w5 (((((us3.setCell ⟨us2.heap.size, 0, none⟩ (.int .i64 rc)).setCell ⟨us2.heap.size, 1, none⟩ (.string rm)).setCell ⟨us2.heap.size, 2, none⟩ (.string rh)).setCell ⟨us2.heap.size, 3, none⟩ (.string rp)).setCell ⟨us2.heap.size, 4, none⟩ (.slice ras rns rks))) := below_putAll hXw [.int .i64 rc, .string rm, .string rh, .string rp, .slice ras rns rks] 0 B3.out; have FIN := hidL (show Below w5.heap.size w5 (((((us3.setCell ⟨us2.heap.size, 0, none⟩ (.int .i64 rc)).setCell ⟨us2.heap.size, 1, none⟩ (.string rm)).setCell ⟨us2.heap.size, 2, none⟩ (.string rh)).setCell ⟨us2.heap.size, 3, none⟩ (.string rp)).setCell ⟨us2.heap.size, 4, none⟩ (.slice ras rns rks)) ∧ At us2.heap.size (us2.heap.size + 1) (Bx us2.heap.size [.int .i64 rc, .string rm, .string rh, .string rp, .slice ras rns rks]) (((((us3.setCell ⟨us2.heap.size, 0, none⟩ (.int .i64 rc)).setCell ⟨us2.heap.size, 1, none⟩ (.string rm)).setCell ⟨us2.heap.size, 2, none⟩ (.string rh)).setCell ⟨us2.heap.size, 3, none⟩ (.string rp)).setCell ⟨us2.heap.size, 4, none⟩ (.slice ras rns rks)) ∧ At (us2.alloc (.cells #[.int .i64 0, .string ⟨#[]⟩, .string ⟨#[]⟩, .string ⟨#[]⟩, .slice none 0 0] 37)).heap.size us3.heap.size (CR ras rns rks) (((((us3.setCell ⟨us2.heap.size, 0, none⟩ (.int .i64 rc)).setCell ⟨us2.heap.size, 1, none⟩ (.string rm)).setCell ⟨us2.heap.size, 2, none⟩ (.string rh)).setCell ⟨us2.heap.size, 3, none⟩ (.string rp)).setCell ⟨us2.heap.size, 4, none⟩ (.slice ras rns rks)) ∧ (us2.heap.size < (us2.alloc (.cells #[.int .i64 0, .string ⟨#[]⟩, .string ⟨#[]⟩, .string ⟨#[]⟩, .slice none 0 0] 37)).heap.size ∨ us3.heap.size ≤ us2.heap.size) ∧ w5.heap.size ≤ us2.heap.size ∧ w5.heap.size ≤ (us2.alloc (.cells #[.int .i64 0, .string ⟨#[]⟩, .string ⟨#[]⟩, .string ⟨#[]⟩, .slice none 0 0] 37)).heap.size ∧ (us2.alloc (.cells #[.int .i64 0, .string ⟨#[]⟩, .string ⟨#[]⟩, .string ⟨#[]⟩, .slice none 0 0] 37)).heap.size ≤ us3.heap.size from ⟨BD.out, Bx.putAll Z3x3.out [.int .i64 rc, .string rm, .string rh, .string rp, .slice ras rns rks] rfl, At.putAll (.inl hXl) [.int .i64 rc, .string rm, .string rh, .string rp, .slice ras rns rks] 0 cr, .inl hXl, hXw, HBB.out.size, hb.size⟩); have z0 := Z3x3.out.val.1 0 _ rfl; have zf0 := Z3x3.out.val.2 0; have z1 := Z3x3.out.val.1 1 _ rfl; have zf1 := Z3x3.out.val.2 1; have z2 := Z3x3.out.val.1 2 _ rfl; have zf2 := Z3x3.out.val.2 2; have z3 := Z3x3.out.val.1 3 _ rfl; have zf3 := Z3x3.out.val.2 3; have z4 := Z3x3.out.val.1 4 _ rfl; have zf4 := Z3x3.out.val.2 4; clear hXl hXw cr hb; clear HBB)))
    all_goals (go_wp2_with fail; go_meet; exact ⟨_, _, _, _, _, _, rfl, FIN.out⟩)
  case rest =>
  obtain ⟨Xs, lss, hss, ras, rns, rks, rfl, r1, r2, r3, r4, r5, r6, r7⟩ := hcut
  have O10 : Hid ((Xs < lss ∨ hss ≤ Xs) ∧ w.heap.size ≤ lss ∧ w.heap.size ≤ Xs ∧ lss ≤ hss ∧ (w.heap.size + 1) ≤ lss ∧ (w.heap.size + 1) ≤ Xs ∧ ((w.heap.size + 1) + 1) ≤ lss ∧ ((w.heap.size + 1) + 1) ≤ Xs) := ⟨r4, Nat.le_trans K6.out.size r6, Nat.le_trans K6.out.size r5, r7, Nat.le_trans F7.out.le r6, Nat.le_trans F7.out.le r5, Nat.le_trans F8.out.le r6, Nat.le_trans F8.out.le r5⟩
  have K11 : Hid (Below w.heap.size w wc) := K6.out.trans (r1.mono K6.out.size)
  have F12 : Hid (At w.heap.size (w.heap.size + 1) (Bx w.heap.size [.string qm, .string qh, .string qp, .slice qa qn qc]) wc) := F7.out.keep r1
  have F13 : Hid (At (w.heap.size + 1) ((w.heap.size + 1) + 1) (Bx (w.heap.size + 1) [.string ek, .int .i64 es, .slice ea en ec, .slice eb ebn ebc, .int .i64 e1, .int .i64 e2, .int .i64 e3, .int .i64 e4, .int .i64 e5, .bool f1, .bool f2, .slice et etn etc, .int .i64 ep]) wc) := F8.out.keep r1
  clear K6 F7 F8
  have F14 : Hid (At lss hss (CR ras rns rks) wc) := r3
  have F15 : Hid (At Xs (Xs + 1) (Bx Xs [.int .i64 rc, .string rm, .string rh, .string rp, .slice ras rns rks]) wc) := r2
  clear r1 r2 r3 r4 r5 r6 r7
  generalize wc = V9 at *
  clear HF
  have p0 := F12.out.val.1 0 _ rfl
  have p1 := F12.out.val.1 1 _ rfl
  have p2 := F12.out.val.1 2 _ rfl
  have p3 := F12.out.val.1 3 _ rfl
  go_wp2_with fail
  refine (HT1.out _ K11.out).mono ?_
  rintro e0 w16 ⟨⟨K1x1, rfl, ca⟩, hb⟩
  clear p0 p1 p2 p3
  obtain ⟨l17, hl17⟩ : ∃ n, V9.heap.size = n := ⟨_, rfl⟩
  obtain ⟨h18, hh18⟩ : ∃ n, w16.heap.size = n := ⟨_, rfl⟩
  have O19 : Hid ((w.heap.size + 1) ≤ l17 ∧ ((w.heap.size + 1) + 1) ≤ l17 ∧ hss ≤ l17 ∧ (Xs + 1) ≤ l17 ∧ w.heap.size ≤ l17 ∧ l17 ≤ h18) := ⟨(by rw [← hl17]; exact F12.out.le), (by rw [← hl17]; exact F13.out.le), (by rw [← hl17]; exact F14.out.le), (by rw [← hl17]; exact F15.out.le), (by rw [← hl17]; exact K11.out.size), (by rw [← hl17, ← hh18]; exact hb.size)⟩
  have F20 : Hid (At l17 h18 (CA1 K1x1) w16) := by rw [← hl17, ← hh18]; exact ca
  clear ca hl17 hh18
  have K21 : Hid (Below w.heap.size w w16) := K11.out.trans (hb.mono K11.out.size)
  have F22 : Hid (At w.heap.size (w.heap.size + 1) (Bx w.heap.size [.string qm, .string qh, .string qp, .slice qa qn qc]) w16) := F12.out.keep hb
  have F23 : Hid (At (w.heap.size + 1) ((w.heap.size + 1) + 1) (Bx (w.heap.size + 1) [.string ek, .int .i64 es, .slice ea en ec, .slice eb ebn ebc, .int .i64 e1, .int .i64 e2, .int .i64 e3, .int .i64 e4, .int .i64 e5, .bool f1, .bool f2, .slice et etn etc, .int .i64 ep]) w16) := F13.out.keep hb
  have F24 : Hid (At lss hss (CR ras rns rks) w16) := F14.out.keep hb
  have F25 : Hid (At Xs (Xs + 1) (Bx Xs [.int .i64 rc, .string rm, .string rh, .string rp, .slice ras rns rks]) w16) := F15.out.keep hb
  clear K11 F12 F13 F14 F15 hb
  obtain ⟨V26, hV26⟩ : ∃ V, V = w16.alloc (.cells #[.string qm, .string qh, .string qp, .slice (some ⟨K1x1, 0, none⟩) qn qn] 35) := ⟨_, rfl⟩
  have HV26 : Hid (V26 = w16.alloc (.cells #[.string qm, .string qh, .string qp, .slice (some ⟨K1x1, 0, none⟩) qn qn] 35)) := hV26
  have ab : Below w16.heap.size w16 V26 := by rw [hV26]; exact (Below.refl _ _).alloc (Nat.le_refl _) _
  have F27 : Hid (At w16.heap.size (w16.heap.size + 1) (Bx w16.heap.size [.string qm, .string qh, .string qp, .slice (some ⟨K1x1, 0, none⟩) qn qn]) V26) := by rw [hV26]; exact Bx.new _ _ _
  have O28 : Hid ((w.heap.size + 1) ≤ w16.heap.size ∧ ((w.heap.size + 1) + 1) ≤ w16.heap.size ∧ hss ≤ w16.heap.size ∧ (Xs + 1) ≤ w16.heap.size ∧ h18 ≤ w16.heap.size ∧ w.heap.size ≤ w16.heap.size) := ⟨F22.out.le, F23.out.le, F24.out.le, F25.out.le, F20.out.le, K21.out.size⟩
  have K29 : Hid (Below w.heap.size w V26) := K21.out.trans (ab.mono K21.out.size)
  have F30 : Hid (At w.heap.size (w.heap.size + 1) (Bx w.heap.size [.string qm, .string qh, .string qp, .slice qa qn qc]) V26) := F22.out.keep ab
  have F31 : Hid (At (w.heap.size + 1) ((w.heap.size + 1) + 1) (Bx (w.heap.size + 1) [.string ek, .int .i64 es, .slice ea en ec, .slice eb ebn ebc, .int .i64 e1, .int .i64 e2, .int .i64 e3, .int .i64 e4, .int .i64 e5, .bool f1, .bool f2, .slice et etn etc, .int .i64 ep]) V26) := F23.out.keep ab
  have F32 : Hid (At lss hss (CR ras rns rks) V26) := F24.out.keep ab
  have F33 : Hid (At Xs (Xs + 1) (Bx Xs [.int .i64 rc, .string rm, .string rh, .string rp, .slice ras rns rks]) V26) := F25.out.keep ab
  have F34 : Hid (At l17 h18 (CA1 K1x1) V26) := F20.out.keep ab
  clear K21 F22 F23 F24 F25 F20
  clear ab hV26
  have p0 := F31.out.val.1 0 _ rfl
  have p1 := F31.out.val.1 1 _ rfl
  have p2 := F31.out.val.1 2 _ rfl
  have p3 := F31.out.val.1 3 _ rfl
  have p4 := F31.out.val.1 4 _ rfl
  have p5 := F31.out.val.1 5 _ rfl
  have p6 := F31.out.val.1 6 _ rfl
  have p7 := F31.out.val.1 7 _ rfl
  have p8 := F31.out.val.1 8 _ rfl
  have p9 := F31.out.val.1 9 _ rfl
  have p10 := F31.out.val.1 10 _ rfl
  have p11 := F31.out.val.1 11 _ rfl
  have p12 := F31.out.val.1 12 _ rfl
  rw [HV26.out] at p0 p1 p2 p3 p4 p5 p6 p7 p8 p9 p10 p11 p12
  go_wp2_with fail
  rw [← HV26.out]
  clear HV26
  generalize w16.heap.size = x35 at *
  refine (HT2.out _ K29.out).mono ?_
  rintro e0 w36 ⟨⟨K2x2, D2x2, J2x2, rfl, ca⟩, hb⟩
  clear p0 p1 p2 p3 p4 p5 p6 p7 p8 p9 p10 p11 p12
  obtain ⟨l37, hl37⟩ : ∃ n, V26.heap.size = n := ⟨_, rfl⟩
  obtain ⟨h38, hh38⟩ : ∃ n, w36.heap.size = n := ⟨_, rfl⟩
  have O39 : Hid ((w.heap.size + 1) ≤ l37 ∧ ((w.heap.size + 1) + 1) ≤ l37 ∧ hss ≤ l37 ∧ (Xs + 1) ≤ l37 ∧ h18 ≤ l37 ∧ (x35 + 1) ≤ l37 ∧ w.heap.size ≤ l37 ∧ l37 ≤ h38) := ⟨(by rw [← hl37]; exact F30.out.le), (by rw [← hl37]; exact F31.out.le), (by rw [← hl37]; exact F32.out.le), (by rw [← hl37]; exact F33.out.le), (by rw [← hl37]; exact F34.out.le), (by rw [← hl37]; exact F27.out.le), (by rw [← hl37]; exact K29.out.size), (by rw [← hl37, ← hh38]; exact hb.size)⟩
  have F40 : Hid (At l37 h38 (CA2 K2x2 D2x2 J2x2) w36) := by rw [← hl37, ← hh38]; exact ca
  clear ca hl37 hh38
  have K41 : Hid (Below w.heap.size w w36) := K29.out.trans (hb.mono K29.out.size)
  have F42 : Hid (At w.heap.size (w.heap.size + 1) (Bx w.heap.size [.string qm, .string qh, .string qp, .slice qa qn qc]) w36) := F30.out.keep hb
  have F43 : Hid (At (w.heap.size + 1) ((w.heap.size + 1) + 1) (Bx (w.heap.size + 1) [.string ek, .int .i64 es, .slice ea en ec, .slice eb ebn ebc, .int .i64 e1, .int .i64 e2, .int .i64 e3, .int .i64 e4, .int .i64 e5, .bool f1, .bool f2, .slice et etn etc, .int .i64 ep]) w36) := F31.out.keep hb
  have F44 : Hid (At lss hss (CR ras rns rks) w36) := F32.out.keep hb
  have F45 : Hid (At Xs (Xs + 1) (Bx Xs [.int .i64 rc, .string rm, .string rh, .string rp, .slice ras rns rks]) w36) := F33.out.keep hb
  have F46 : Hid (At l17 h18 (CA1 K1x1) w36) := F34.out.keep hb
  have F47 : Hid (At x35 (x35 + 1) (Bx x35 [.string qm, .string qh, .string qp, .slice (some ⟨K1x1, 0, none⟩) qn qn]) w36) := F27.out.keep hb
  clear K29 F30 F31 F32 F33 F34 F27 hb
  obtain ⟨V48, hV48⟩ : ∃ V, V = w36.alloc (.cells #[.string ek, .int .i64 es, .slice (some ⟨K2x2, 0, none⟩) en en, .slice (some ⟨D2x2, 0, none⟩) ebn ebn, .int .i64 e1, .int .i64 e2, .int .i64 e3, .int .i64 e4, .int .i64 e5, .bool f1, .bool f2, .slice (some ⟨J2x2, 0, none⟩) etn etn, .int .i64 ep] 42) := ⟨_, rfl⟩
  have HV48 : Hid (V48 = w36.alloc (.cells #[.string ek, .int .i64 es, .slice (some ⟨K2x2, 0, none⟩) en en, .slice (some ⟨D2x2, 0, none⟩) ebn ebn, .int .i64 e1, .int .i64 e2, .int .i64 e3, .int .i64 e4, .int .i64 e5, .bool f1, .bool f2, .slice (some ⟨J2x2, 0, none⟩) etn etn, .int .i64 ep] 42)) := hV48
  have ab : Below w36.heap.size w36 V48 := by rw [hV48]; exact (Below.refl _ _).alloc (Nat.le_refl _) _
  have F49 : Hid (At w36.heap.size (w36.heap.size + 1) (Bx w36.heap.size [.string ek, .int .i64 es, .slice (some ⟨K2x2, 0, none⟩) en en, .slice (some ⟨D2x2, 0, none⟩) ebn ebn, .int .i64 e1, .int .i64 e2, .int .i64 e3, .int .i64 e4, .int .i64 e5, .bool f1, .bool f2, .slice (some ⟨J2x2, 0, none⟩) etn etn, .int .i64 ep]) V48) := by rw [hV48]; exact Bx.new _ _ _
  have O50 : Hid ((w.heap.size + 1) ≤ w36.heap.size ∧ ((w.heap.size + 1) + 1) ≤ w36.heap.size ∧ hss ≤ w36.heap.size ∧ (Xs + 1) ≤ w36.heap.size ∧ h18 ≤ w36.heap.size ∧ (x35 + 1) ≤ w36.heap.size ∧ h38 ≤ w36.heap.size ∧ w.heap.size ≤ w36.heap.size) := ⟨F42.out.le, F43.out.le, F44.out.le, F45.out.le, F46.out.le, F47.out.le, F40.out.le, K41.out.size⟩
  have K51 : Hid (Below w.heap.size w V48) := K41.out.trans (ab.mono K41.out.size)
  have F52 : Hid (At w.heap.size (w.heap.size + 1) (Bx w.heap.size [.string qm, .string qh, .string qp, .slice qa qn qc]) V48) := F42.out.keep ab
  have F53 : Hid (At (w.heap.size + 1) ((w.heap.size + 1) + 1) (Bx (w.heap.size + 1) [.string ek, .int .i64 es, .slice ea en ec, .slice eb ebn ebc, .int .i64 e1, .int .i64 e2, .int .i64 e3, .int .i64 e4, .int .i64 e5, .bool f1, .bool f2, .slice et etn etc, .int .i64 ep]) V48) := F43.out.keep ab
  have F54 : Hid (At lss hss (CR ras rns rks) V48) := F44.out.keep ab
  have F55 : Hid (At Xs (Xs + 1) (Bx Xs [.int .i64 rc, .string rm, .string rh, .string rp, .slice ras rns rks]) V48) := F45.out.keep ab
  have F56 : Hid (At l17 h18 (CA1 K1x1) V48) := F46.out.keep ab
  have F57 : Hid (At x35 (x35 + 1) (Bx x35 [.string qm, .string qh, .string qp, .slice (some ⟨K1x1, 0, none⟩) qn qn]) V48) := F47.out.keep ab
  have F58 : Hid (At l37 h38 (CA2 K2x2 D2x2 J2x2) V48) := F40.out.keep ab
  clear K41 F42 F43 F44 F45 F46 F47 F40
  clear ab hV48
  have p1_0 := F57.out.val.1 0 _ rfl
  have p1_1 := F57.out.val.1 1 _ rfl
  have p1_2 := F57.out.val.1 2 _ rfl
  have p1_3 := F57.out.val.1 3 _ rfl
  have p2_0 := F49.out.val.1 0 _ rfl
  have p2_1 := F49.out.val.1 1 _ rfl
  have p2_2 := F49.out.val.1 2 _ rfl
  have p2_3 := F49.out.val.1 3 _ rfl
  have p2_4 := F49.out.val.1 4 _ rfl
  have p2_5 := F49.out.val.1 5 _ rfl
  have p2_6 := F49.out.val.1 6 _ rfl
  have p2_7 := F49.out.val.1 7 _ rfl
  have p2_8 := F49.out.val.1 8 _ rfl
  have p2_9 := F49.out.val.1 9 _ rfl
  have p2_10 := F49.out.val.1 10 _ rfl
  have p2_11 := F49.out.val.1 11 _ rfl
  have p2_12 := F49.out.val.1 12 _ rfl
  rw [HV48.out] at p1_0 p1_1 p1_2 p1_3 p2_0 p2_1 p2_2 p2_3 p2_4 p2_5 p2_6 p2_7 p2_8 p2_9 p2_10 p2_11 p2_12
  go_wp2_with fail
  rw [← HV48.out]
  clear HV48
  generalize w36.heap.size = x59 at *
  refine (HG.out _ _ _ _ _ _ _ _ _ K51.out F56.out F58.out).mono ?_
  rintro e0 w60 ⟨⟨rag, rng, rkg, rfl, cr⟩, hb⟩
  clear p1_0 p1_1 p1_2 p1_3 p2_0 p2_1 p2_2 p2_3 p2_4 p2_5 p2_6 p2_7 p2_8 p2_9 p2_10 p2_11 p2_12
  obtain ⟨l61, hl61⟩ : ∃ n, V48.heap.size = n := ⟨_, rfl⟩
  obtain ⟨h62, hh62⟩ : ∃ n, w60.heap.size = n := ⟨_, rfl⟩
  have O63 : Hid ((w.heap.size + 1) ≤ l61 ∧ ((w.heap.size + 1) + 1) ≤ l61 ∧ hss ≤ l61 ∧ (Xs + 1) ≤ l61 ∧ h18 ≤ l61 ∧ (x35 + 1) ≤ l61 ∧ h38 ≤ l61 ∧ (x59 + 1) ≤ l61 ∧ w.heap.size ≤ l61 ∧ l61 ≤ h62) := ⟨(by rw [← hl61]; exact F52.out.le), (by rw [← hl61]; exact F53.out.le), (by rw [← hl61]; exact F54.out.le), (by rw [← hl61]; exact F55.out.le), (by rw [← hl61]; exact F56.out.le), (by rw [← hl61]; exact F57.out.le), (by rw [← hl61]; exact F58.out.le), (by rw [← hl61]; exact F49.out.le), (by rw [← hl61]; exact K51.out.size), (by rw [← hl61, ← hh62]; exact hb.size)⟩
  have F64 : Hid (At l61 h62 (CR rag rng rkg) w60) := by rw [← hl61, ← hh62]; exact cr
  clear cr hl61 hh62
  have K65 : Hid (Below w.heap.size w w60) := K51.out.trans (hb.mono K51.out.size)
  have F66 : Hid (At w.heap.size (w.heap.size + 1) (Bx w.heap.size [.string qm, .string qh, .string qp, .slice qa qn qc]) w60) := F52.out.keep hb
  have F67 : Hid (At (w.heap.size + 1) ((w.heap.size + 1) + 1) (Bx (w.heap.size + 1) [.string ek, .int .i64 es, .slice ea en ec, .slice eb ebn ebc, .int .i64 e1, .int .i64 e2, .int .i64 e3, .int .i64 e4, .int .i64 e5, .bool f1, .bool f2, .slice et etn etc, .int .i64 ep]) w60) := F53.out.keep hb
  have F68 : Hid (At lss hss (CR ras rns rks) w60) := F54.out.keep hb
  have F69 : Hid (At Xs (Xs + 1) (Bx Xs [.int .i64 rc, .string rm, .string rh, .string rp, .slice ras rns rks]) w60) := F55.out.keep hb
  have F70 : Hid (At l17 h18 (CA1 K1x1) w60) := F56.out.keep hb
  have F71 : Hid (At x35 (x35 + 1) (Bx x35 [.string qm, .string qh, .string qp, .slice (some ⟨K1x1, 0, none⟩) qn qn]) w60) := F57.out.keep hb
  have F72 : Hid (At l37 h38 (CA2 K2x2 D2x2 J2x2) w60) := F58.out.keep hb
  have F73 : Hid (At x59 (x59 + 1) (Bx x59 [.string ek, .int .i64 es, .slice (some ⟨K2x2, 0, none⟩) en en, .slice (some ⟨D2x2, 0, none⟩) ebn ebn, .int .i64 e1, .int .i64 e2, .int .i64 e3, .int .i64 e4, .int .i64 e5, .bool f1, .bool f2, .slice (some ⟨J2x2, 0, none⟩) etn etn, .int .i64 ep]) w60) := F49.out.keep hb
  clear K51 F52 F53 F54 F55 F56 F57 F58 F49 hb
  obtain ⟨V74, hV74⟩ : ∃ V, V = w60.alloc (.cells #[.int .i64 rc, .string rm, .string rh, .string rp, .slice rag rng rkg] 37) := ⟨_, rfl⟩
  have HV74 : Hid (V74 = w60.alloc (.cells #[.int .i64 rc, .string rm, .string rh, .string rp, .slice rag rng rkg] 37)) := hV74
  have ab : Below w60.heap.size w60 V74 := by rw [hV74]; exact (Below.refl _ _).alloc (Nat.le_refl _) _
  have F75 : Hid (At w60.heap.size (w60.heap.size + 1) (Bx w60.heap.size [.int .i64 rc, .string rm, .string rh, .string rp, .slice rag rng rkg]) V74) := by rw [hV74]; exact Bx.new _ _ _
  have O76 : Hid ((w.heap.size + 1) ≤ w60.heap.size ∧ ((w.heap.size + 1) + 1) ≤ w60.heap.size ∧ hss ≤ w60.heap.size ∧ (Xs + 1) ≤ w60.heap.size ∧ h18 ≤ w60.heap.size ∧ (x35 + 1) ≤ w60.heap.size ∧ h38 ≤ w60.heap.size ∧ (x59 + 1) ≤ w60.heap.size ∧ h62 ≤ w60.heap.size ∧ w.heap.size ≤ w60.heap.size) := ⟨F66.out.le, F67.out.le, F68.out.le, F69.out.le, F70.out.le, F71.out.le, F72.out.le, F73.out.le, F64.out.le, K65.out.size⟩
  have K77 : Hid (Below w.heap.size w V74) := K65.out.trans (ab.mono K65.out.size)
  have F78 : Hid (At w.heap.size (w.heap.size + 1) (Bx w.heap.size [.string qm, .string qh, .string qp, .slice qa qn qc]) V74) := F66.out.keep ab
  have F79 : Hid (At (w.heap.size + 1) ((w.heap.size + 1) + 1) (Bx (w.heap.size + 1) [.string ek, .int .i64 es, .slice ea en ec, .slice eb ebn ebc, .int .i64 e1, .int .i64 e2, .int .i64 e3, .int .i64 e4, .int .i64 e5, .bool f1, .bool f2, .slice et etn etc, .int .i64 ep]) V74) := F67.out.keep ab
  have F80 : Hid (At lss hss (CR ras rns rks) V74) := F68.out.keep ab
  have F81 : Hid (At Xs (Xs + 1) (Bx Xs [.int .i64 rc, .string rm, .string rh, .string rp, .slice ras rns rks]) V74) := F69.out.keep ab
  have F82 : Hid (At l17 h18 (CA1 K1x1) V74) := F70.out.keep ab
  have F83 : Hid (At x35 (x35 + 1) (Bx x35 [.string qm, .string qh, .string qp, .slice (some ⟨K1x1, 0, none⟩) qn qn]) V74) := F71.out.keep ab
  have F84 : Hid (At l37 h38 (CA2 K2x2 D2x2 J2x2) V74) := F72.out.keep ab
  have F85 : Hid (At x59 (x59 + 1) (Bx x59 [.string ek, .int .i64 es, .slice (some ⟨K2x2, 0, none⟩) en en, .slice (some ⟨D2x2, 0, none⟩) ebn ebn, .int .i64 e1, .int .i64 e2, .int .i64 e3, .int .i64 e4, .int .i64 e5, .bool f1, .bool f2, .slice (some ⟨J2x2, 0, none⟩) etn etn, .int .i64 ep]) V74) := F73.out.keep ab
  have F86 : Hid (At l61 h62 (CR rag rng rkg) V74) := F64.out.keep ab
  clear K65 F66 F67 F68 F69 F70 F71 F72 F73 F64
  clear ab hV74
  have p0 := F75.out.val.1 0 _ rfl
  have p1 := F75.out.val.1 1 _ rfl
  have p2 := F75.out.val.1 2 _ rfl
  have p3 := F75.out.val.1 3 _ rfl
  have p4 := F75.out.val.1 4 _ rfl
  have s0 := F81.out.val.1 0 _ rfl
  have s1 := F81.out.val.1 1 _ rfl
  have s2 := F81.out.val.1 2 _ rfl
  have s3 := F81.out.val.1 3 _ rfl
  have s4 := F81.out.val.1 4 _ rfl
  rw [HV74.out] at p0 p1 p2 p3 p4 s0 s1 s2 s3 s4
  go_wp2_with fail
  rw [← HV74.out]
  clear HV74
  generalize w60.heap.size = x87 at *
  refine (HEQ.out _ _ _ _ _ _ _ _ _ _ _ F86.out F80.out).mono ?_
  rintro e0 w88 ⟨rfl, hb⟩
  clear p0 p1 p2 p3 p4 s0 s1 s2 s3 s4
  have K89 : Hid (Below w.heap.size w w88) := K77.out.trans (hb.mono K77.out.size)
  have F90 : Hid (At w.heap.size (w.heap.size + 1) (Bx w.heap.size [.string qm, .string qh, .string qp, .slice qa qn qc]) w88) := F78.out.keep hb
  have F91 : Hid (At (w.heap.size + 1) ((w.heap.size + 1) + 1) (Bx (w.heap.size + 1) [.string ek, .int .i64 es, .slice ea en ec, .slice eb ebn ebc, .int .i64 e1, .int .i64 e2, .int .i64 e3, .int .i64 e4, .int .i64 e5, .bool f1, .bool f2, .slice et etn etc, .int .i64 ep]) w88) := F79.out.keep hb
  have F92 : Hid (At lss hss (CR ras rns rks) w88) := F80.out.keep hb
  have F93 : Hid (At Xs (Xs + 1) (Bx Xs [.int .i64 rc, .string rm, .string rh, .string rp, .slice ras rns rks]) w88) := F81.out.keep hb
  have F94 : Hid (At l17 h18 (CA1 K1x1) w88) := F82.out.keep hb
  have F95 : Hid (At x35 (x35 + 1) (Bx x35 [.string qm, .string qh, .string qp, .slice (some ⟨K1x1, 0, none⟩) qn qn]) w88) := F83.out.keep hb
  have F96 : Hid (At l37 h38 (CA2 K2x2 D2x2 J2x2) w88) := F84.out.keep hb
  have F97 : Hid (At x59 (x59 + 1) (Bx x59 [.string ek, .int .i64 es, .slice (some ⟨K2x2, 0, none⟩) en en, .slice (some ⟨D2x2, 0, none⟩) ebn ebn, .int .i64 e1, .int .i64 e2, .int .i64 e3, .int .i64 e4, .int .i64 e5, .bool f1, .bool f2, .slice (some ⟨J2x2, 0, none⟩) etn etn, .int .i64 ep]) w88) := F85.out.keep hb
  have F98 : Hid (At l61 h62 (CR rag rng rkg) w88) := F86.out.keep hb
  have F99 : Hid (At x87 (x87 + 1) (Bx x87 [.int .i64 rc, .string rm, .string rh, .string rp, .slice rag rng rkg]) w88) := F75.out.keep hb
  clear K77 F78 F79 F80 F81 F82 F83 F84 F85 F86 F75 hb
  have HKS : Hid (∀ X, Below w88.heap.size w88 X → X.cell? ⟨w.heap.size, 0, none⟩ = some (.string qm) ∧ X.cell? ⟨w.heap.size, 1, none⟩ = some (.string qh) ∧ X.cell? ⟨w.heap.size, 2, none⟩ = some (.string qp) ∧ X.cell? ⟨w.heap.size, 3, none⟩ = some (.slice qa qn qc) ∧ X.cell? ⟨x35, 0, none⟩ = some (.string qm) ∧ X.cell? ⟨x35, 1, none⟩ = some (.string qh) ∧ X.cell? ⟨x35, 2, none⟩ = some (.string qp) ∧ X.cell? ⟨x35, 3, none⟩ = some (.slice (some ⟨K1x1, 0, none⟩) qn qn)) := fun X hX => ⟨(F90.out.keep hX).val.1 0 _ rfl, (F90.out.keep hX).val.1 1 _ rfl, (F90.out.keep hX).val.1 2 _ rfl, (F90.out.keep hX).val.1 3 _ rfl, (F95.out.keep hX).val.1 0 _ rfl, (F95.out.keep hX).val.1 1 _ rfl, (F95.out.keep hX).val.1 2 _ rfl, (F95.out.keep hX).val.1 3 _ rfl⟩
  have B0 : Hid (Below w88.heap.size w88 w88.drew) := (Below.refl _ _).drew
  have KB0 : Hid (Below w.heap.size w w88.drew) := K89.out.trans (B0.out.mono K89.out.size)
  go_wp2_with fail
  go_region_held3 (fun X => X.cell? ⟨w.heap.size, 0, none⟩ = some (.string qm) ∧ X.cell? ⟨w.heap.size, 1, none⟩ = some (.string qh) ∧ X.cell? ⟨w.heap.size, 2, none⟩ = some (.string qp) ∧ X.cell? ⟨w.heap.size, 3, none⟩ = some (.slice qa qn qc) ∧ X.cell? ⟨x35, 0, none⟩ = some (.string qm) ∧ X.cell? ⟨x35, 1, none⟩ = some (.string qh) ∧ X.cell? ⟨x35, 2, none⟩ = some (.string qp) ∧ X.cell? ⟨x35, 3, none⟩ = some (.slice (some ⟨K1x1, 0, none⟩) qn qn))
    (first | ((with_reducible refine HKS.out _ ?_); (with_reducible exact BB.out)) | ((with_reducible refine HKS.out _ ?_); (with_reducible exact BA.out)) | ((with_reducible refine HKS.out _ ?_); (with_reducible exact B0.out)))
    (first
    | (go_at_call 11; (with_reducible refine (HT1.out w88.drew KB0.out).mono ?_); rintro e0 w100 ⟨⟨K1t, rfl, ca⟩, hb⟩; have BA : Hid (Below w88.heap.size w88 w100) := B0.out.trans (hb.mono B0.out.size); have MA := hidL ca; clear ca hb)
    | (go_at_call 15; (with_reducible refine (HQ1.out w100 _ _ _ _ _ _ (F94.out.keep BA.out) MA.out).mono ?_); rintro e0 w101 ⟨rfl, hb⟩; have BB : Hid (Below w88.heap.size w88 w101) := BA.out.trans (hb.mono BA.out.size); clear hb))
  have K102 : Hid (Below w.heap.size w w101) := K89.out.trans (BB.out.mono K89.out.size)
  have F103 : Hid (At w.heap.size (w.heap.size + 1) (Bx w.heap.size [.string qm, .string qh, .string qp, .slice qa qn qc]) w101) := F90.out.keep BB.out
  have F104 : Hid (At (w.heap.size + 1) ((w.heap.size + 1) + 1) (Bx (w.heap.size + 1) [.string ek, .int .i64 es, .slice ea en ec, .slice eb ebn ebc, .int .i64 e1, .int .i64 e2, .int .i64 e3, .int .i64 e4, .int .i64 e5, .bool f1, .bool f2, .slice et etn etc, .int .i64 ep]) w101) := F91.out.keep BB.out
  have F105 : Hid (At lss hss (CR ras rns rks) w101) := F92.out.keep BB.out
  have F106 : Hid (At Xs (Xs + 1) (Bx Xs [.int .i64 rc, .string rm, .string rh, .string rp, .slice ras rns rks]) w101) := F93.out.keep BB.out
  have F107 : Hid (At l17 h18 (CA1 K1x1) w101) := F94.out.keep BB.out
  have F108 : Hid (At x35 (x35 + 1) (Bx x35 [.string qm, .string qh, .string qp, .slice (some ⟨K1x1, 0, none⟩) qn qn]) w101) := F95.out.keep BB.out
  have F109 : Hid (At l37 h38 (CA2 K2x2 D2x2 J2x2) w101) := F96.out.keep BB.out
  have F110 : Hid (At x59 (x59 + 1) (Bx x59 [.string ek, .int .i64 es, .slice (some ⟨K2x2, 0, none⟩) en en, .slice (some ⟨D2x2, 0, none⟩) ebn ebn, .int .i64 e1, .int .i64 e2, .int .i64 e3, .int .i64 e4, .int .i64 e5, .bool f1, .bool f2, .slice (some ⟨J2x2, 0, none⟩) etn etn, .int .i64 ep]) w101) := F97.out.keep BB.out
  have F111 : Hid (At l61 h62 (CR rag rng rkg) w101) := F98.out.keep BB.out
  have F112 : Hid (At x87 (x87 + 1) (Bx x87 [.int .i64 rc, .string rm, .string rh, .string rp, .slice rag rng rkg]) w101) := F99.out.keep BB.out
  clear K89 F90 F91 F92 F93 F94 F95 F96 F97 F98 F99
  clear HKS B0 BA BB MA KB0
  clear HQ1
  have HKS : Hid (∀ X, Below w101.heap.size w101 X → X.cell? ⟨(w.heap.size + 1), 0, none⟩ = some (.string ek) ∧ X.cell? ⟨(w.heap.size + 1), 1, none⟩ = some (.int .i64 es) ∧ X.cell? ⟨(w.heap.size + 1), 2, none⟩ = some (.slice ea en ec) ∧ X.cell? ⟨(w.heap.size + 1), 3, none⟩ = some (.slice eb ebn ebc) ∧ X.cell? ⟨(w.heap.size + 1), 4, none⟩ = some (.int .i64 e1) ∧ X.cell? ⟨(w.heap.size + 1), 5, none⟩ = some (.int .i64 e2) ∧ X.cell? ⟨(w.heap.size + 1), 6, none⟩ = some (.int .i64 e3) ∧ X.cell? ⟨(w.heap.size + 1), 7, none⟩ = some (.int .i64 e4) ∧ X.cell? ⟨(w.heap.size + 1), 8, none⟩ = some (.int .i64 e5) ∧ X.cell? ⟨(w.heap.size + 1), 9, none⟩ = some (.bool f1) ∧ X.cell? ⟨(w.heap.size + 1), 10, none⟩ = some (.bool f2) ∧ X.cell? ⟨(w.heap.size + 1), 11, none⟩ = some (.slice et etn etc) ∧ X.cell? ⟨(w.heap.size + 1), 12, none⟩ = some (.int .i64 ep) ∧ X.cell? ⟨x59, 0, none⟩ = some (.string ek) ∧ X.cell? ⟨x59, 1, none⟩ = some (.int .i64 es) ∧ X.cell? ⟨x59, 2, none⟩ = some (.slice (some ⟨K2x2, 0, none⟩) en en) ∧ X.cell? ⟨x59, 3, none⟩ = some (.slice (some ⟨D2x2, 0, none⟩) ebn ebn) ∧ X.cell? ⟨x59, 4, none⟩ = some (.int .i64 e1) ∧ X.cell? ⟨x59, 5, none⟩ = some (.int .i64 e2) ∧ X.cell? ⟨x59, 6, none⟩ = some (.int .i64 e3) ∧ X.cell? ⟨x59, 7, none⟩ = some (.int .i64 e4) ∧ X.cell? ⟨x59, 8, none⟩ = some (.int .i64 e5) ∧ X.cell? ⟨x59, 9, none⟩ = some (.bool f1) ∧ X.cell? ⟨x59, 10, none⟩ = some (.bool f2) ∧ X.cell? ⟨x59, 11, none⟩ = some (.slice (some ⟨J2x2, 0, none⟩) etn etn) ∧ X.cell? ⟨x59, 12, none⟩ = some (.int .i64 ep)) := fun X hX => ⟨(F104.out.keep hX).val.1 0 _ rfl, (F104.out.keep hX).val.1 1 _ rfl, (F104.out.keep hX).val.1 2 _ rfl, (F104.out.keep hX).val.1 3 _ rfl, (F104.out.keep hX).val.1 4 _ rfl, (F104.out.keep hX).val.1 5 _ rfl, (F104.out.keep hX).val.1 6 _ rfl, (F104.out.keep hX).val.1 7 _ rfl, (F104.out.keep hX).val.1 8 _ rfl, (F104.out.keep hX).val.1 9 _ rfl, (F104.out.keep hX).val.1 10 _ rfl, (F104.out.keep hX).val.1 11 _ rfl, (F104.out.keep hX).val.1 12 _ rfl, (F110.out.keep hX).val.1 0 _ rfl, (F110.out.keep hX).val.1 1 _ rfl, (F110.out.keep hX).val.1 2 _ rfl, (F110.out.keep hX).val.1 3 _ rfl, (F110.out.keep hX).val.1 4 _ rfl, (F110.out.keep hX).val.1 5 _ rfl, (F110.out.keep hX).val.1 6 _ rfl, (F110.out.keep hX).val.1 7 _ rfl, (F110.out.keep hX).val.1 8 _ rfl, (F110.out.keep hX).val.1 9 _ rfl, (F110.out.keep hX).val.1 10 _ rfl, (F110.out.keep hX).val.1 11 _ rfl, (F110.out.keep hX).val.1 12 _ rfl⟩
  have B0 : Hid (Below w101.heap.size w101 w101.drew) := (Below.refl _ _).drew
  have KB0 : Hid (Below w.heap.size w w101.drew) := K102.out.trans (B0.out.mono K102.out.size)
  go_wp2_with fail
  go_region_held3 (fun X => X.cell? ⟨(w.heap.size + 1), 0, none⟩ = some (.string ek) ∧ X.cell? ⟨(w.heap.size + 1), 1, none⟩ = some (.int .i64 es) ∧ X.cell? ⟨(w.heap.size + 1), 2, none⟩ = some (.slice ea en ec) ∧ X.cell? ⟨(w.heap.size + 1), 3, none⟩ = some (.slice eb ebn ebc) ∧ X.cell? ⟨(w.heap.size + 1), 4, none⟩ = some (.int .i64 e1) ∧ X.cell? ⟨(w.heap.size + 1), 5, none⟩ = some (.int .i64 e2) ∧ X.cell? ⟨(w.heap.size + 1), 6, none⟩ = some (.int .i64 e3) ∧ X.cell? ⟨(w.heap.size + 1), 7, none⟩ = some (.int .i64 e4) ∧ X.cell? ⟨(w.heap.size + 1), 8, none⟩ = some (.int .i64 e5) ∧ X.cell? ⟨(w.heap.size + 1), 9, none⟩ = some (.bool f1) ∧ X.cell? ⟨(w.heap.size + 1), 10, none⟩ = some (.bool f2) ∧ X.cell? ⟨(w.heap.size + 1), 11, none⟩ = some (.slice et etn etc) ∧ X.cell? ⟨(w.heap.size + 1), 12, none⟩ = some (.int .i64 ep) ∧ X.cell? ⟨x59, 0, none⟩ = some (.string ek) ∧ X.cell? ⟨x59, 1, none⟩ = some (.int .i64 es) ∧ X.cell? ⟨x59, 2, none⟩ = some (.slice (some ⟨K2x2, 0, none⟩) en en) ∧ X.cell? ⟨x59, 3, none⟩ = some (.slice (some ⟨D2x2, 0, none⟩) ebn ebn) ∧ X.cell? ⟨x59, 4, none⟩ = some (.int .i64 e1) ∧ X.cell? ⟨x59, 5, none⟩ = some (.int .i64 e2) ∧ X.cell? ⟨x59, 6, none⟩ = some (.int .i64 e3) ∧ X.cell? ⟨x59, 7, none⟩ = some (.int .i64 e4) ∧ X.cell? ⟨x59, 8, none⟩ = some (.int .i64 e5) ∧ X.cell? ⟨x59, 9, none⟩ = some (.bool f1) ∧ X.cell? ⟨x59, 10, none⟩ = some (.bool f2) ∧ X.cell? ⟨x59, 11, none⟩ = some (.slice (some ⟨J2x2, 0, none⟩) etn etn) ∧ X.cell? ⟨x59, 12, none⟩ = some (.int .i64 ep))
    (first | ((with_reducible refine HKS.out _ ?_); (with_reducible exact BB.out)) | ((with_reducible refine HKS.out _ ?_); (with_reducible exact BA.out)) | ((with_reducible refine HKS.out _ ?_); (with_reducible exact B0.out)))
    (first
    | (go_at_call 12; (with_reducible refine (HT2.out w101.drew KB0.out).mono ?_); rintro e0 w113 ⟨⟨K2t, D2t, J2t, rfl, ca⟩, hb⟩; have BA : Hid (Below w101.heap.size w101 w113) := B0.out.trans (hb.mono B0.out.size); have MA := hidL ca; clear ca hb)
    | (go_at_call 16; (with_reducible refine (HQ2.out w113 _ _ _ _ _ _ _ _ _ _ (F109.out.keep BA.out) MA.out).mono ?_); rintro e0 w114 ⟨rfl, hb⟩; have BB : Hid (Below w101.heap.size w101 w114) := BA.out.trans (hb.mono BA.out.size); clear hb))
  have K115 : Hid (Below w.heap.size w w114) := K102.out.trans (BB.out.mono K102.out.size)
  have F116 : Hid (At w.heap.size (w.heap.size + 1) (Bx w.heap.size [.string qm, .string qh, .string qp, .slice qa qn qc]) w114) := F103.out.keep BB.out
  have F117 : Hid (At (w.heap.size + 1) ((w.heap.size + 1) + 1) (Bx (w.heap.size + 1) [.string ek, .int .i64 es, .slice ea en ec, .slice eb ebn ebc, .int .i64 e1, .int .i64 e2, .int .i64 e3, .int .i64 e4, .int .i64 e5, .bool f1, .bool f2, .slice et etn etc, .int .i64 ep]) w114) := F104.out.keep BB.out
  have F118 : Hid (At lss hss (CR ras rns rks) w114) := F105.out.keep BB.out
  have F119 : Hid (At Xs (Xs + 1) (Bx Xs [.int .i64 rc, .string rm, .string rh, .string rp, .slice ras rns rks]) w114) := F106.out.keep BB.out
  have F120 : Hid (At l17 h18 (CA1 K1x1) w114) := F107.out.keep BB.out
  have F121 : Hid (At x35 (x35 + 1) (Bx x35 [.string qm, .string qh, .string qp, .slice (some ⟨K1x1, 0, none⟩) qn qn]) w114) := F108.out.keep BB.out
  have F122 : Hid (At l37 h38 (CA2 K2x2 D2x2 J2x2) w114) := F109.out.keep BB.out
  have F123 : Hid (At x59 (x59 + 1) (Bx x59 [.string ek, .int .i64 es, .slice (some ⟨K2x2, 0, none⟩) en en, .slice (some ⟨D2x2, 0, none⟩) ebn ebn, .int .i64 e1, .int .i64 e2, .int .i64 e3, .int .i64 e4, .int .i64 e5, .bool f1, .bool f2, .slice (some ⟨J2x2, 0, none⟩) etn etn, .int .i64 ep]) w114) := F110.out.keep BB.out
  have F124 : Hid (At l61 h62 (CR rag rng rkg) w114) := F111.out.keep BB.out
  have F125 : Hid (At x87 (x87 + 1) (Bx x87 [.int .i64 rc, .string rm, .string rh, .string rp, .slice rag rng rkg]) w114) := F112.out.keep BB.out
  clear K102 F103 F104 F105 F106 F107 F108 F109 F110 F111 F112
  clear HKS B0 BA BB MA KB0
  clear HQ2
  have p0 := F121.out.val.1 0 _ rfl
  have p1 := F121.out.val.1 1 _ rfl
  have p2 := F121.out.val.1 2 _ rfl
  have p3 := F121.out.val.1 3 _ rfl
  go_wp2_with fail
  refine (HM1.out _ _ _ _ F120.out (by have := SW.out; have := O10.out; have := O19.out; have := O28.out; have := O39.out; have := O50.out; have := O63.out; have := O76.out; omega)).mono ?_
  rintro e0 w126 ⟨rfl, hg, hb⟩
  clear p0 p1 p2 p3
  clear F120
  have K127 : Hid (Below w.heap.size w w126) := K115.out.trans hb
  have F128 : Hid (At w.heap.size (w.heap.size + 1) (Bx w.heap.size [.string qm, .string qh, .string qp, .slice qa qn qc]) w126) := F116.out.wi hg (by have := SW.out; have := O10.out; have := O19.out; have := O28.out; have := O39.out; have := O50.out; have := O63.out; have := O76.out; omega)
  have F129 : Hid (At (w.heap.size + 1) ((w.heap.size + 1) + 1) (Bx (w.heap.size + 1) [.string ek, .int .i64 es, .slice ea en ec, .slice eb ebn ebc, .int .i64 e1, .int .i64 e2, .int .i64 e3, .int .i64 e4, .int .i64 e5, .bool f1, .bool f2, .slice et etn etc, .int .i64 ep]) w126) := F117.out.wi hg (by have := SW.out; have := O10.out; have := O19.out; have := O28.out; have := O39.out; have := O50.out; have := O63.out; have := O76.out; omega)
  have F130 : Hid (At lss hss (CR ras rns rks) w126) := F118.out.wi hg (by have := SW.out; have := O10.out; have := O19.out; have := O28.out; have := O39.out; have := O50.out; have := O63.out; have := O76.out; omega)
  have F131 : Hid (At Xs (Xs + 1) (Bx Xs [.int .i64 rc, .string rm, .string rh, .string rp, .slice ras rns rks]) w126) := F119.out.wi hg (by have := SW.out; have := O10.out; have := O19.out; have := O28.out; have := O39.out; have := O50.out; have := O63.out; have := O76.out; omega)
  have F132 : Hid (At x35 (x35 + 1) (Bx x35 [.string qm, .string qh, .string qp, .slice (some ⟨K1x1, 0, none⟩) qn qn]) w126) := F121.out.wi hg (by have := SW.out; have := O10.out; have := O19.out; have := O28.out; have := O39.out; have := O50.out; have := O63.out; have := O76.out; omega)
  have F133 : Hid (At l37 h38 (CA2 K2x2 D2x2 J2x2) w126) := F122.out.wi hg (by have := SW.out; have := O10.out; have := O19.out; have := O28.out; have := O39.out; have := O50.out; have := O63.out; have := O76.out; omega)
  have F134 : Hid (At x59 (x59 + 1) (Bx x59 [.string ek, .int .i64 es, .slice (some ⟨K2x2, 0, none⟩) en en, .slice (some ⟨D2x2, 0, none⟩) ebn ebn, .int .i64 e1, .int .i64 e2, .int .i64 e3, .int .i64 e4, .int .i64 e5, .bool f1, .bool f2, .slice (some ⟨J2x2, 0, none⟩) etn etn, .int .i64 ep]) w126) := F123.out.wi hg (by have := SW.out; have := O10.out; have := O19.out; have := O28.out; have := O39.out; have := O50.out; have := O63.out; have := O76.out; omega)
  have F135 : Hid (At l61 h62 (CR rag rng rkg) w126) := F124.out.wi hg (by have := SW.out; have := O10.out; have := O19.out; have := O28.out; have := O39.out; have := O50.out; have := O63.out; have := O76.out; omega)
  have F136 : Hid (At x87 (x87 + 1) (Bx x87 [.int .i64 rc, .string rm, .string rh, .string rp, .slice rag rng rkg]) w126) := F125.out.wi hg (by have := SW.out; have := O10.out; have := O19.out; have := O28.out; have := O39.out; have := O50.out; have := O63.out; have := O76.out; omega)
  clear K115 F116 F117 F118 F119 F121 F122 F123 F124 F125 hg hb
  clear HM1
  have p0 := F134.out.val.1 0 _ rfl
  have p1 := F134.out.val.1 1 _ rfl
  have p2 := F134.out.val.1 2 _ rfl
  have p3 := F134.out.val.1 3 _ rfl
  have p4 := F134.out.val.1 4 _ rfl
  have p5 := F134.out.val.1 5 _ rfl
  have p6 := F134.out.val.1 6 _ rfl
  have p7 := F134.out.val.1 7 _ rfl
  have p8 := F134.out.val.1 8 _ rfl
  have p9 := F134.out.val.1 9 _ rfl
  have p10 := F134.out.val.1 10 _ rfl
  have p11 := F134.out.val.1 11 _ rfl
  have p12 := F134.out.val.1 12 _ rfl
  go_wp2_with fail
  refine (HM2.out _ _ _ _ _ _ F133.out (by have := SW.out; have := O10.out; have := O19.out; have := O28.out; have := O39.out; have := O50.out; have := O63.out; have := O76.out; omega)).mono ?_
  rintro e0 w137 ⟨rfl, hg, hb⟩
  clear p0 p1 p2 p3 p4 p5 p6 p7 p8 p9 p10 p11 p12
  clear F133
  have K138 : Hid (Below w.heap.size w w137) := K127.out.trans hb
  have F139 : Hid (At w.heap.size (w.heap.size + 1) (Bx w.heap.size [.string qm, .string qh, .string qp, .slice qa qn qc]) w137) := F128.out.wi hg (by have := SW.out; have := O10.out; have := O19.out; have := O28.out; have := O39.out; have := O50.out; have := O63.out; have := O76.out; omega)
  have F140 : Hid (At (w.heap.size + 1) ((w.heap.size + 1) + 1) (Bx (w.heap.size + 1) [.string ek, .int .i64 es, .slice ea en ec, .slice eb ebn ebc, .int .i64 e1, .int .i64 e2, .int .i64 e3, .int .i64 e4, .int .i64 e5, .bool f1, .bool f2, .slice et etn etc, .int .i64 ep]) w137) := F129.out.wi hg (by have := SW.out; have := O10.out; have := O19.out; have := O28.out; have := O39.out; have := O50.out; have := O63.out; have := O76.out; omega)
  have F141 : Hid (At lss hss (CR ras rns rks) w137) := F130.out.wi hg (by have := SW.out; have := O10.out; have := O19.out; have := O28.out; have := O39.out; have := O50.out; have := O63.out; have := O76.out; omega)
  have F142 : Hid (At Xs (Xs + 1) (Bx Xs [.int .i64 rc, .string rm, .string rh, .string rp, .slice ras rns rks]) w137) := F131.out.wi hg (by have := SW.out; have := O10.out; have := O19.out; have := O28.out; have := O39.out; have := O50.out; have := O63.out; have := O76.out; omega)
  have F143 : Hid (At x35 (x35 + 1) (Bx x35 [.string qm, .string qh, .string qp, .slice (some ⟨K1x1, 0, none⟩) qn qn]) w137) := F132.out.wi hg (by have := SW.out; have := O10.out; have := O19.out; have := O28.out; have := O39.out; have := O50.out; have := O63.out; have := O76.out; omega)
  have F144 : Hid (At x59 (x59 + 1) (Bx x59 [.string ek, .int .i64 es, .slice (some ⟨K2x2, 0, none⟩) en en, .slice (some ⟨D2x2, 0, none⟩) ebn ebn, .int .i64 e1, .int .i64 e2, .int .i64 e3, .int .i64 e4, .int .i64 e5, .bool f1, .bool f2, .slice (some ⟨J2x2, 0, none⟩) etn etn, .int .i64 ep]) w137) := F134.out.wi hg (by have := SW.out; have := O10.out; have := O19.out; have := O28.out; have := O39.out; have := O50.out; have := O63.out; have := O76.out; omega)
  have F145 : Hid (At l61 h62 (CR rag rng rkg) w137) := F135.out.wi hg (by have := SW.out; have := O10.out; have := O19.out; have := O28.out; have := O39.out; have := O50.out; have := O63.out; have := O76.out; omega)
  have F146 : Hid (At x87 (x87 + 1) (Bx x87 [.int .i64 rc, .string rm, .string rh, .string rp, .slice rag rng rkg]) w137) := F136.out.wi hg (by have := SW.out; have := O10.out; have := O19.out; have := O28.out; have := O39.out; have := O50.out; have := O63.out; have := O76.out; omega)
  clear K127 F128 F129 F130 F131 F132 F134 F135 F136 hg hb
  clear HM2
  have hkd : decide (k2 < 0) = false := by simpa using hk0
  have p0 := F146.out.val.1 0 _ rfl
  have p1 := F146.out.val.1 1 _ rfl
  have p2 := F146.out.val.1 2 _ rfl
  have p3 := F146.out.val.1 3 _ rfl
  have p4 := F146.out.val.1 4 _ rfl
  have s0 := F142.out.val.1 0 _ rfl
  have s1 := F142.out.val.1 1 _ rfl
  have s2 := F142.out.val.1 2 _ rfl
  have s3 := F142.out.val.1 3 _ rfl
  have s4 := F142.out.val.1 4 _ rfl
  go_wp2_with fail
  refine (HEQ.out _ _ _ _ _ _ _ _ _ _ _ F145.out F141.out).mono ?_
  rintro e0 w147 ⟨rfl, hb⟩
  clear p0 p1 p2 p3 p4 s0 s1 s2 s3 s4
  have K148 : Hid (Below w.heap.size w w147) := K138.out.trans (hb.mono K138.out.size)
  have F149 : Hid (At w.heap.size (w.heap.size + 1) (Bx w.heap.size [.string qm, .string qh, .string qp, .slice qa qn qc]) w147) := F139.out.keep hb
  have F150 : Hid (At (w.heap.size + 1) ((w.heap.size + 1) + 1) (Bx (w.heap.size + 1) [.string ek, .int .i64 es, .slice ea en ec, .slice eb ebn ebc, .int .i64 e1, .int .i64 e2, .int .i64 e3, .int .i64 e4, .int .i64 e5, .bool f1, .bool f2, .slice et etn etc, .int .i64 ep]) w147) := F140.out.keep hb
  have F151 : Hid (At lss hss (CR ras rns rks) w147) := F141.out.keep hb
  have F152 : Hid (At Xs (Xs + 1) (Bx Xs [.int .i64 rc, .string rm, .string rh, .string rp, .slice ras rns rks]) w147) := F142.out.keep hb
  have F153 : Hid (At x35 (x35 + 1) (Bx x35 [.string qm, .string qh, .string qp, .slice (some ⟨K1x1, 0, none⟩) qn qn]) w147) := F143.out.keep hb
  have F154 : Hid (At x59 (x59 + 1) (Bx x59 [.string ek, .int .i64 es, .slice (some ⟨K2x2, 0, none⟩) en en, .slice (some ⟨D2x2, 0, none⟩) ebn ebn, .int .i64 e1, .int .i64 e2, .int .i64 e3, .int .i64 e4, .int .i64 e5, .bool f1, .bool f2, .slice (some ⟨J2x2, 0, none⟩) etn etn, .int .i64 ep]) w147) := F144.out.keep hb
  have F155 : Hid (At l61 h62 (CR rag rng rkg) w147) := F145.out.keep hb
  have F156 : Hid (At x87 (x87 + 1) (Bx x87 [.int .i64 rc, .string rm, .string rh, .string rp, .slice rag rng rkg]) w147) := F146.out.keep hb
  clear K138 F139 F140 F141 F142 F143 F144 F145 F146 hb
  clear hkd
  clear F153 F154
  have p0 := F156.out.val.1 0 _ rfl
  have p1 := F156.out.val.1 1 _ rfl
  have p2 := F156.out.val.1 2 _ rfl
  have p3 := F156.out.val.1 3 _ rfl
  have p4 := F156.out.val.1 4 _ rfl
  go_wp2_with fail
  refine (HMR.out _ _ _ _ _ _ K148.out F155.out (by have := SW.out; have := O10.out; have := O19.out; have := O28.out; have := O39.out; have := O50.out; have := O63.out; have := O76.out; omega)).mono ?_
  rintro e0 w157 ⟨rfl, mr, hg, hb⟩
  clear p0 p1 p2 p3 p4 F155
  have K158 : Hid (Below w.heap.size w w157) := K148.out.trans hb
  have F159 : Hid (At w.heap.size (w.heap.size + 1) (Bx w.heap.size [.string qm, .string qh, .string qp, .slice qa qn qc]) w157) := F149.out.wi hg (by have := SW.out; have := O10.out; have := O19.out; have := O28.out; have := O39.out; have := O50.out; have := O63.out; have := O76.out; omega)
  have F160 : Hid (At (w.heap.size + 1) ((w.heap.size + 1) + 1) (Bx (w.heap.size + 1) [.string ek, .int .i64 es, .slice ea en ec, .slice eb ebn ebc, .int .i64 e1, .int .i64 e2, .int .i64 e3, .int .i64 e4, .int .i64 e5, .bool f1, .bool f2, .slice et etn etc, .int .i64 ep]) w157) := F150.out.wi hg (by have := SW.out; have := O10.out; have := O19.out; have := O28.out; have := O39.out; have := O50.out; have := O63.out; have := O76.out; omega)
  have F161 : Hid (At lss hss (CR ras rns rks) w157) := F151.out.wi hg (by have := SW.out; have := O10.out; have := O19.out; have := O28.out; have := O39.out; have := O50.out; have := O63.out; have := O76.out; omega)
  have F162 : Hid (At Xs (Xs + 1) (Bx Xs [.int .i64 rc, .string rm, .string rh, .string rp, .slice ras rns rks]) w157) := F152.out.wi hg (by have := SW.out; have := O10.out; have := O19.out; have := O28.out; have := O39.out; have := O50.out; have := O63.out; have := O76.out; omega)
  have F163 : Hid (At x87 (x87 + 1) (Bx x87 [.int .i64 rc, .string rm, .string rh, .string rp, .slice rag rng rkg]) w157) := F156.out.wi hg (by have := SW.out; have := O10.out; have := O19.out; have := O28.out; have := O39.out; have := O50.out; have := O63.out; have := O76.out; omega)
  clear K148 F149 F150 F151 F152 F156 hg hb
  have F164 : Hid (At l61 h62 (MR rag rng rkg) w157) := mr
  clear mr HMR
  have p0 := F163.out.val.1 0 _ rfl
  have p1 := F163.out.val.1 1 _ rfl
  have p2 := F163.out.val.1 2 _ rfl
  have p3 := F163.out.val.1 3 _ rfl
  have p4 := F163.out.val.1 4 _ rfl
  go_wp2_with fail
  refine (HHR.out _ _ _ _ _ _ F164.out).mono ?_
  rintro e0 w165 ⟨rfl, hb⟩
  clear p0 p1 p2 p3 p4
  have K166 : Hid (Below w.heap.size w w165) := K158.out.trans (hb.mono K158.out.size)
  have F167 : Hid (At w.heap.size (w.heap.size + 1) (Bx w.heap.size [.string qm, .string qh, .string qp, .slice qa qn qc]) w165) := F159.out.keep hb
  have F168 : Hid (At (w.heap.size + 1) ((w.heap.size + 1) + 1) (Bx (w.heap.size + 1) [.string ek, .int .i64 es, .slice ea en ec, .slice eb ebn ebc, .int .i64 e1, .int .i64 e2, .int .i64 e3, .int .i64 e4, .int .i64 e5, .bool f1, .bool f2, .slice et etn etc, .int .i64 ep]) w165) := F160.out.keep hb
  have F169 : Hid (At lss hss (CR ras rns rks) w165) := F161.out.keep hb
  have F170 : Hid (At Xs (Xs + 1) (Bx Xs [.int .i64 rc, .string rm, .string rh, .string rp, .slice ras rns rks]) w165) := F162.out.keep hb
  have F171 : Hid (At x87 (x87 + 1) (Bx x87 [.int .i64 rc, .string rm, .string rh, .string rp, .slice rag rng rkg]) w165) := F163.out.keep hb
  have F172 : Hid (At l61 h62 (MR rag rng rkg) w165) := F164.out.keep hb
  clear K158 F159 F160 F161 F162 F163 F164 hb
  clear SW O10 O19 O28 O39 O50 O63 O76
  go_upto_region 31 with fail
  go_cut [15] from 79 to 84 (fun sx wx => ∃ (X0 ls hs : Nat) (rah : Option Addr) (rnh : Nat) (rkh : Nat), sx = .pointer (some ⟨X0, 0, none⟩) ∧ Below w165.heap.size w165 wx ∧ At X0 (X0 + 1) (Bx X0 [.int .i64 rc, .string rm, .string rh, .string rp, .slice rah rnh rkh]) wx ∧ At ls hs (CR rah rnh rkh) wx ∧ (X0 < ls ∨ hs ≤ X0) ∧ w165.heap.size ≤ X0 ∧ w165.heap.size ≤ ls ∧ ls ≤ hs)
  case first =>
    have HKS : Hid (∀ X, Below w165.heap.size w165 X → X.cell? ⟨w.heap.size, 0, none⟩ = some (.string qm) ∧ X.cell? ⟨w.heap.size, 1, none⟩ = some (.string qh) ∧ X.cell? ⟨w.heap.size, 2, none⟩ = some (.string qp) ∧ X.cell? ⟨w.heap.size, 3, none⟩ = some (.slice qa qn qc) ∧ X.cell? ⟨(w.heap.size + 1), 0, none⟩ = some (.string ek) ∧ X.cell? ⟨(w.heap.size + 1), 1, none⟩ = some (.int .i64 es) ∧ X.cell? ⟨(w.heap.size + 1), 2, none⟩ = some (.slice ea en ec) ∧ X.cell? ⟨(w.heap.size + 1), 3, none⟩ = some (.slice eb ebn ebc) ∧ X.cell? ⟨(w.heap.size + 1), 4, none⟩ = some (.int .i64 e1) ∧ X.cell? ⟨(w.heap.size + 1), 5, none⟩ = some (.int .i64 e2) ∧ X.cell? ⟨(w.heap.size + 1), 6, none⟩ = some (.int .i64 e3) ∧ X.cell? ⟨(w.heap.size + 1), 7, none⟩ = some (.int .i64 e4) ∧ X.cell? ⟨(w.heap.size + 1), 8, none⟩ = some (.int .i64 e5) ∧ X.cell? ⟨(w.heap.size + 1), 9, none⟩ = some (.bool f1) ∧ X.cell? ⟨(w.heap.size + 1), 10, none⟩ = some (.bool f2) ∧ X.cell? ⟨(w.heap.size + 1), 11, none⟩ = some (.slice et etn etc) ∧ X.cell? ⟨(w.heap.size + 1), 12, none⟩ = some (.int .i64 ep)) := fun X hX => ⟨(F167.out.keep hX).val.1 0 _ rfl, (F167.out.keep hX).val.1 1 _ rfl, (F167.out.keep hX).val.1 2 _ rfl, (F167.out.keep hX).val.1 3 _ rfl, (F168.out.keep hX).val.1 0 _ rfl, (F168.out.keep hX).val.1 1 _ rfl, (F168.out.keep hX).val.1 2 _ rfl, (F168.out.keep hX).val.1 3 _ rfl, (F168.out.keep hX).val.1 4 _ rfl, (F168.out.keep hX).val.1 5 _ rfl, (F168.out.keep hX).val.1 6 _ rfl, (F168.out.keep hX).val.1 7 _ rfl, (F168.out.keep hX).val.1 8 _ rfl, (F168.out.keep hX).val.1 9 _ rfl, (F168.out.keep hX).val.1 10 _ rfl, (F168.out.keep hX).val.1 11 _ rfl, (F168.out.keep hX).val.1 12 _ rfl⟩
    have KX : Hid (∀ X, Below w165.heap.size w165 X → Below w.heap.size w X) := fun X hX => K166.out.trans (hX.mono K166.out.size)
    have B0 : Hid (Below w165.heap.size w165 w165.drew) := (Below.refl _ _).drew
    have B0A : Hid (Below w165.heap.size w165 (w165.alloc (.cells #[.int .i64 0, .string ⟨#[]⟩, .string ⟨#[]⟩, .string ⟨#[]⟩, .slice none 0 0] 37)).drew) := ((Below.refl _ _).alloc (Nat.le_refl _) _).drew
    have ZA0 : Hid (At w165.heap.size (w165.heap.size + 1) (Bx w165.heap.size [.int .i64 0, .string ⟨#[]⟩, .string ⟨#[]⟩, .string ⟨#[]⟩, .slice none 0 0]) (w165.alloc (.cells #[.int .i64 0, .string ⟨#[]⟩, .string ⟨#[]⟩, .string ⟨#[]⟩, .slice none 0 0] 37)).drew) := (Bx.newAt rfl [.int .i64 0, .string ⟨#[]⟩, .string ⟨#[]⟩, .string ⟨#[]⟩, .slice none 0 0] _).keep ((Below.refl _ _).drew)
    go_region_held3 (fun X => X.cell? ⟨w.heap.size, 0, none⟩ = some (.string qm) ∧ X.cell? ⟨w.heap.size, 1, none⟩ = some (.string qh) ∧ X.cell? ⟨w.heap.size, 2, none⟩ = some (.string qp) ∧ X.cell? ⟨w.heap.size, 3, none⟩ = some (.slice qa qn qc) ∧ X.cell? ⟨(w.heap.size + 1), 0, none⟩ = some (.string ek) ∧ X.cell? ⟨(w.heap.size + 1), 1, none⟩ = some (.int .i64 es) ∧ X.cell? ⟨(w.heap.size + 1), 2, none⟩ = some (.slice ea en ec) ∧ X.cell? ⟨(w.heap.size + 1), 3, none⟩ = some (.slice eb ebn ebc) ∧ X.cell? ⟨(w.heap.size + 1), 4, none⟩ = some (.int .i64 e1) ∧ X.cell? ⟨(w.heap.size + 1), 5, none⟩ = some (.int .i64 e2) ∧ X.cell? ⟨(w.heap.size + 1), 6, none⟩ = some (.int .i64 e3) ∧ X.cell? ⟨(w.heap.size + 1), 7, none⟩ = some (.int .i64 e4) ∧ X.cell? ⟨(w.heap.size + 1), 8, none⟩ = some (.int .i64 e5) ∧ X.cell? ⟨(w.heap.size + 1), 9, none⟩ = some (.bool f1) ∧ X.cell? ⟨(w.heap.size + 1), 10, none⟩ = some (.bool f2) ∧ X.cell? ⟨(w.heap.size + 1), 11, none⟩ = some (.slice et etn etc) ∧ X.cell? ⟨(w.heap.size + 1), 12, none⟩ = some (.int .i64 ep))
      (first | ((with_reducible refine HKS.out _ ?_); (with_reducible exact BD.out)) | ((with_reducible refine HKS.out _ ?_); (with_reducible exact B3.out)) | ((with_reducible refine HKS.out _ ?_); (with_reducible exact B2.out)) | ((with_reducible refine HKS.out _ ?_); (with_reducible exact B1.out)) | ((with_reducible refine HKS.out _ ?_); (with_reducible exact B0.out)) | ((with_reducible refine HKS.out _ ?_); (with_reducible exact B0A.out)) | ((with_reducible refine HKS.out _ ?_); (with_reducible exact B3.out.alloc B3.out.size _)) | ((with_reducible refine HKS.out _ ?_); (with_reducible exact B2.out.alloc B2.out.size _)) | ((with_reducible refine HKS.out _ ?_); (with_reducible exact B1.out.alloc B1.out.size _)) | ((with_reducible refine HKS.out _ ?_); (with_reducible exact (Below.refl _ _).alloc (Nat.le_refl _) _)))
      (first
        | (go_at_call 11; first
          | (have HBB : Hid (Below w165.heap.size w165 w165.drew) := B0.out; (with_reducible refine (HT1.out w165.drew (KX.out _ HBB.out)).mono ?_); rintro e0 uh1 ⟨⟨K1hc, rfl, ca⟩, hb⟩; have C1 : Hid (At w165.drew.heap.size uh1.heap.size (CA1 K1hc) uh1) := ca; clear ca; have B1 : Hid (Below w165.heap.size w165 uh1) := HBB.out.trans (hb.mono HBB.out.size); clear hb; clear HBB)
          | (have HBB : Hid (Below w165.heap.size w165 (w165.alloc (.cells #[.int .i64 0, .string ⟨#[]⟩, .string ⟨#[]⟩, .string ⟨#[]⟩, .slice none 0 0] 37)).drew) := B0A.out; (with_reducible refine (HT1.out (w165.alloc (.cells #[.int .i64 0, .string ⟨#[]⟩, .string ⟨#[]⟩, .string ⟨#[]⟩, .slice none 0 0] 37)).drew (KX.out _ HBB.out)).mono ?_); rintro e0 uh1 ⟨⟨K1hc, rfl, ca⟩, hb⟩; have C1 : Hid (At (w165.alloc (.cells #[.int .i64 0, .string ⟨#[]⟩, .string ⟨#[]⟩, .string ⟨#[]⟩, .slice none 0 0] 37)).drew.heap.size uh1.heap.size (CA1 K1hc) uh1) := ca; clear ca; have B1 : Hid (Below w165.heap.size w165 uh1) := HBB.out.trans (hb.mono HBB.out.size); have Z1x1 := hidL (ZA0.out.keep hb); clear hb; clear HBB))
        | (go_at_call 12; first
          | (have hz := Z1x1.out; have HBB : Hid (Below w165.heap.size w165 uh1) := B1.out; (with_reducible refine (HT2.out uh1 (KX.out _ HBB.out)).mono ?_); rintro e0 uh2 ⟨⟨K2hc, D2hc, J2hc, rfl, ca⟩, hb⟩; have C2 : Hid (At uh1.heap.size uh2.heap.size (CA2 K2hc D2hc J2hc) uh2) := ca; clear ca; have C1x2 := hidL (C1.out.keep hb); have B2 : Hid (Below w165.heap.size w165 uh2) := HBB.out.trans (hb.mono HBB.out.size); have Z1x2 := hidL (hz.keep hb); clear hb; clear HBB)
          | (have HBB : Hid (Below w165.heap.size w165 uh1) := B1.out; (with_reducible refine (HT2.out uh1 (KX.out _ HBB.out)).mono ?_); rintro e0 uh2 ⟨⟨K2hc, D2hc, J2hc, rfl, ca⟩, hb⟩; have C2 : Hid (At uh1.heap.size uh2.heap.size (CA2 K2hc D2hc J2hc) uh2) := ca; clear ca; have C1x2 := hidL (C1.out.keep hb); have B2 : Hid (Below w165.heap.size w165 uh2) := HBB.out.trans (hb.mono HBB.out.size); clear hb; clear HBB)
          | (have HBB : Hid (Below w165.heap.size w165 (uh1.alloc (.cells #[.int .i64 0, .string ⟨#[]⟩, .string ⟨#[]⟩, .string ⟨#[]⟩, .slice none 0 0] 37))) := (B1.out.alloc B1.out.size _); (with_reducible refine (HT2.out (uh1.alloc (.cells #[.int .i64 0, .string ⟨#[]⟩, .string ⟨#[]⟩, .string ⟨#[]⟩, .slice none 0 0] 37)) (KX.out _ HBB.out)).mono ?_); rintro e0 uh2 ⟨⟨K2hc, D2hc, J2hc, rfl, ca⟩, hb⟩; have C2 : Hid (At (uh1.alloc (.cells #[.int .i64 0, .string ⟨#[]⟩, .string ⟨#[]⟩, .string ⟨#[]⟩, .slice none 0 0] 37)).heap.size uh2.heap.size (CA2 K2hc D2hc J2hc) uh2) := ca; clear ca; have C1x2 := hidL ((C1.out.al (.cells #[.int .i64 0, .string ⟨#[]⟩, .string ⟨#[]⟩, .string ⟨#[]⟩, .slice none 0 0] 37)).keep hb); have B2 : Hid (Below w165.heap.size w165 uh2) := HBB.out.trans (hb.mono HBB.out.size); have Z2x2 := hidL ((Bx.newAt (X := uh1) rfl [.int .i64 0, .string ⟨#[]⟩, .string ⟨#[]⟩, .string ⟨#[]⟩, .slice none 0 0] 37).keep hb); clear hb; clear HBB))
        | (go_at_call 13; first
          | (have hz := Z1x2.out; have HBB : Hid (Below w165.heap.size w165 uh2) := B2.out; (with_reducible refine (HG.out uh2 _ _ _ _ _ _ _ _ (KX.out _ HBB.out) C1x2.out C2.out).mono ?_); rintro e0 uh3 ⟨⟨rah, rnh, rkh, rfl, cr⟩, hb⟩; have B3 : Hid (Below w165.heap.size w165 uh3) := HBB.out.trans (hb.mono HBB.out.size); have Z1x3 := hidL (hz.keep hb); have hXl : w165.heap.size < uh2.heap.size := (Nat.lt_of_lt_of_le (Nat.lt_succ_self _) hz.le); have hXw : w165.heap.size ≤ w165.heap.size := Nat.le_refl _; have BD : Hid (Below w165.heap.size w165 (((((uh3.setCell ⟨w165.heap.size, 0, none⟩ (.int .i64 rc)).setCell ⟨w165.heap.size, 1, none⟩ (.string rm)).setCell ⟨w165.heap.size, 2, none⟩ (.string rh)).setCell ⟨w165.heap.size, 3, none⟩ (.string rp)).setCell ⟨w165.heap.size, 4, none⟩ (.slice rah rnh rkh))) := below_putAll hXw [.int .i64 rc, .string rm, .string rh, .string rp, .slice rah rnh rkh] 0 B3.out; have FIN := hidL (show Below w165.heap.size w165 (((((uh3.setCell ⟨w165.heap.size, 0, none⟩ (.int .i64 rc)).setCell ⟨w165.heap.size, 1, none⟩ (.string rm)).setCell ⟨w165.heap.size, 2, none⟩ (.string rh)).setCell ⟨w165.heap.size, 3, none⟩ (.string rp)).setCell ⟨w165.heap.size, 4, none⟩ (.slice rah rnh rkh)) ∧ At w165.heap.size (w165.heap.size + 1) (Bx w165.heap.size [.int .i64 rc, .string rm, .string rh, .string rp, .slice rah rnh rkh]) (((((uh3.setCell ⟨w165.heap.size, 0, none⟩ (.int .i64 rc)).setCell ⟨w165.heap.size, 1, none⟩ (.string rm)).setCell ⟨w165.heap.size, 2, none⟩ (.string rh)).setCell ⟨w165.heap.size, 3, none⟩ (.string rp)).setCell ⟨w165.heap.size, 4, none⟩ (.slice rah rnh rkh)) ∧ At uh2.heap.size uh3.heap.size (CR rah rnh rkh) (((((uh3.setCell ⟨w165.heap.size, 0, none⟩ (.int .i64 rc)).setCell ⟨w165.heap.size, 1, none⟩ (.string rm)).setCell ⟨w165.heap.size, 2, none⟩ (.string rh)).setCell ⟨w165.heap.size, 3, none⟩ (.string rp)).setCell ⟨w165.heap.size, 4, none⟩ (.slice rah rnh rkh)) ∧ (w165.heap.size < uh2.heap.size ∨ uh3.heap.size ≤ w165.heap.size) ∧ w165.heap.size ≤ w165.heap.size ∧ w165.heap.size ≤ uh2.heap.size ∧ uh2.heap.size ≤ uh3.heap.size from ⟨BD.out, Bx.putAll Z1x3.out [.int .i64 rc, .string rm, .string rh, .string rp, .slice rah rnh rkh] rfl, At.putAll (.inl hXl) [.int .i64 rc, .string rm, .string rh, .string rp, .slice rah rnh rkh] 0 cr, .inl hXl, hXw, HBB.out.size, hb.size⟩); have z0 := Z1x3.out.val.1 0 _ rfl; have zf0 := Z1x3.out.val.2 0; have z1 := Z1x3.out.val.1 1 _ rfl; have zf1 := Z1x3.out.val.2 1; have z2 := Z1x3.out.val.1 2 _ rfl; have zf2 := Z1x3.out.val.2 2; have z3 := Z1x3.out.val.1 3 _ rfl; have zf3 := Z1x3.out.val.2 3; have z4 := Z1x3.out.val.1 4 _ rfl; have zf4 := Z1x3.out.val.2 4; clear hXl hXw cr hb; clear HBB)
          | (have hz := Z2x2.out; have HBB : Hid (Below w165.heap.size w165 uh2) := B2.out; (with_reducible refine (HG.out uh2 _ _ _ _ _ _ _ _ (KX.out _ HBB.out) C1x2.out C2.out).mono ?_); rintro e0 uh3 ⟨⟨rah, rnh, rkh, rfl, cr⟩, hb⟩; have B3 : Hid (Below w165.heap.size w165 uh3) := HBB.out.trans (hb.mono HBB.out.size); have Z2x3 := hidL (hz.keep hb); have hXl : uh1.heap.size < uh2.heap.size := (Nat.lt_of_lt_of_le (Nat.lt_succ_self _) hz.le); have hXw : w165.heap.size ≤ uh1.heap.size := B1.out.size; have BD : Hid (Below w165.heap.size w165 (((((uh3.setCell ⟨uh1.heap.size, 0, none⟩ (.int .i64 rc)).setCell ⟨uh1.heap.size, 1, none⟩ (.string rm)).setCell ⟨uh1.heap.size, 2, none⟩ (.string rh)).setCell ⟨uh1.heap.size, 3, none⟩ (.string rp)).setCell ⟨uh1.heap.size, 4, none⟩ (.slice rah rnh rkh))) := below_putAll hXw [.int .i64 rc, .string rm, .string rh, .string rp, .slice rah rnh rkh] 0 B3.out; have FIN := hidL (show Below w165.heap.size w165 (((((uh3.setCell ⟨uh1.heap.size, 0, none⟩ (.int .i64 rc)).setCell ⟨uh1.heap.size, 1, none⟩ (.string rm)).setCell ⟨uh1.heap.size, 2, none⟩ (.string rh)).setCell ⟨uh1.heap.size, 3, none⟩ (.string rp)).setCell ⟨uh1.heap.size, 4, none⟩ (.slice rah rnh rkh)) ∧ At uh1.heap.size (uh1.heap.size + 1) (Bx uh1.heap.size [.int .i64 rc, .string rm, .string rh, .string rp, .slice rah rnh rkh]) (((((uh3.setCell ⟨uh1.heap.size, 0, none⟩ (.int .i64 rc)).setCell ⟨uh1.heap.size, 1, none⟩ (.string rm)).setCell ⟨uh1.heap.size, 2, none⟩ (.string rh)).setCell ⟨uh1.heap.size, 3, none⟩ (.string rp)).setCell ⟨uh1.heap.size, 4, none⟩ (.slice rah rnh rkh)) ∧ At uh2.heap.size uh3.heap.size (CR rah rnh rkh) (((((uh3.setCell ⟨uh1.heap.size, 0, none⟩ (.int .i64 rc)).setCell ⟨uh1.heap.size, 1, none⟩ (.string rm)).setCell ⟨uh1.heap.size, 2, none⟩ (.string rh)).setCell ⟨uh1.heap.size, 3, none⟩ (.string rp)).setCell ⟨uh1.heap.size, 4, none⟩ (.slice rah rnh rkh)) ∧ (uh1.heap.size < uh2.heap.size ∨ uh3.heap.size ≤ uh1.heap.size) ∧ w165.heap.size ≤ uh1.heap.size ∧ w165.heap.size ≤ uh2.heap.size ∧ uh2.heap.size ≤ uh3.heap.size from ⟨BD.out, Bx.putAll Z2x3.out [.int .i64 rc, .string rm, .string rh, .string rp, .slice rah rnh rkh] rfl, At.putAll (.inl hXl) [.int .i64 rc, .string rm, .string rh, .string rp, .slice rah rnh rkh] 0 cr, .inl hXl, hXw, HBB.out.size, hb.size⟩); have z0 := Z2x3.out.val.1 0 _ rfl; have zf0 := Z2x3.out.val.2 0; have z1 := Z2x3.out.val.1 1 _ rfl; have zf1 := Z2x3.out.val.2 1; have z2 := Z2x3.out.val.1 2 _ rfl; have zf2 := Z2x3.out.val.2 2; have z3 := Z2x3.out.val.1 3 _ rfl; have zf3 := Z2x3.out.val.2 3; have z4 := Z2x3.out.val.1 4 _ rfl; have zf4 := Z2x3.out.val.2 4; clear hXl hXw cr hb; clear HBB)
          | (have HBB : Hid (Below w165.heap.size w165 uh2) := B2.out; (with_reducible refine (HG.out uh2 _ _ _ _ _ _ _ _ (KX.out _ HBB.out) C1x2.out C2.out).mono ?_); rintro e0 uh3 ⟨⟨rah, rnh, rkh, rfl, cr⟩, hb⟩; have B3 : Hid (Below w165.heap.size w165 uh3) := HBB.out.trans (hb.mono HBB.out.size); have BD : Hid (Below w165.heap.size w165 (uh3.alloc (.cells #[.int .i64 rc, .string rm, .string rh, .string rp, .slice rah rnh rkh] 37))) := B3.out.alloc B3.out.size _; have FIN := hidL (show Below w165.heap.size w165 (uh3.alloc (.cells #[.int .i64 rc, .string rm, .string rh, .string rp, .slice rah rnh rkh] 37)) ∧ At uh3.heap.size (uh3.heap.size + 1) (Bx uh3.heap.size [.int .i64 rc, .string rm, .string rh, .string rp, .slice rah rnh rkh]) (uh3.alloc (.cells #[.int .i64 rc, .string rm, .string rh, .string rp, .slice rah rnh rkh] 37)) ∧ At uh2.heap.size uh3.heap.size (CR rah rnh rkh) (uh3.alloc (.cells #[.int .i64 rc, .string rm, .string rh, .string rp, .slice rah rnh rkh] 37)) ∧ (uh3.heap.size < uh2.heap.size ∨ uh3.heap.size ≤ uh3.heap.size) ∧ w165.heap.size ≤ uh3.heap.size ∧ w165.heap.size ≤ uh2.heap.size ∧ uh2.heap.size ≤ uh3.heap.size from ⟨BD.out, Bx.newAt rfl [.int .i64 rc, .string rm, .string rh, .string rp, .slice rah rnh rkh] _, cr.al _, .inr (Nat.le_refl _), B3.out.size, HBB.out.size, hb.size⟩); clear cr hb; clear HBB)
          | (have HBB : Hid (Below w165.heap.size w165 (uh2.alloc (.cells #[.int .i64 0, .string ⟨#[]⟩, .string ⟨#[]⟩, .string ⟨#[]⟩, .slice none 0 0] 37))) := (B2.out.alloc B2.out.size _); (with_reducible refine (HG.out (uh2.alloc (.cells #[.int .i64 0, .string ⟨#[]⟩, .string ⟨#[]⟩, .string ⟨#[]⟩, .slice none 0 0] 37)) _ _ _ _ _ _ _ _ (KX.out _ HBB.out) (C1x2.out.al (.cells #[.int .i64 0, .string ⟨#[]⟩, .string ⟨#[]⟩, .string ⟨#[]⟩, .slice none 0 0] 37)) (C2.out.al (.cells #[.int .i64 0, .string ⟨#[]⟩, .string ⟨#[]⟩, .string ⟨#[]⟩, .slice none 0 0] 37))).mono ?_); rintro e0 uh3 ⟨⟨rah, rnh, rkh, rfl, cr⟩, hb⟩; have B3 : Hid (Below w165.heap.size w165 uh3) := HBB.out.trans (hb.mono HBB.out.size); have Z3x3 := hidL ((Bx.newAt (X := uh2) rfl [.int .i64 0, .string ⟨#[]⟩, .string ⟨#[]⟩, .string ⟨#[]⟩, .slice none 0 0] 37).keep hb); have hXl : uh2.heap.size < (uh2.alloc (.cells #[.int .i64 0, .string ⟨#[]⟩, .string ⟨#[]⟩, .string ⟨#[]⟩, .slice none 0 0] 37)).heap.size := (by simp); have hXw : w165.heap.size ≤ uh2.heap.size := B2.out.size; have BD : Hid (Below w165.heap.size w165 (((((uh3.setCell ⟨uh2.heap.size, 0, none⟩ (.int .i64 rc)).setCell ⟨uh2.heap.size, 1, none⟩ (.string rm)).setCell ⟨uh2.heap.size, 2, none⟩ (.string rh)).setCell ⟨uh2.heap.size, 3, none⟩ (.string rp)).setCell ⟨uh2.heap.size, 4, none⟩ (.slice rah rnh rkh))) := below_putAll hXw [.int .i64 rc, .string rm, .string rh, .string rp, .slice rah rnh rkh] 0 B3.out; have FIN := hidL (show Below w165.heap.size w165 (((((uh3.setCell ⟨uh2.heap.size, 0, none⟩ (.int .i64 rc)).setCell ⟨uh2.heap.size, 1, none⟩ (.string rm)).setCell ⟨uh2.heap.size, 2, none⟩ (.string rh)).setCell ⟨uh2.heap.size, 3, none⟩ (.string rp)).setCell ⟨uh2.heap.size, 4, none⟩ (.slice rah rnh rkh)) ∧ At uh2.heap.size (uh2.heap.size + 1) (Bx uh2.heap.size [.int .i64 rc, .string rm, .string rh, .string rp, .slice rah rnh rkh]) (((((uh3.setCell ⟨uh2.heap.size, 0, none⟩ (.int .i64 rc)).setCell ⟨uh2.heap.size, 1, none⟩ (.string rm)).setCell ⟨uh2.heap.size, 2, none⟩ (.string rh)).setCell ⟨uh2.heap.size, 3, none⟩ (.string rp)).setCell ⟨uh2.heap.size, 4, none⟩ (.slice rah rnh rkh)) ∧ At (uh2.alloc (.cells #[.int .i64 0, .string ⟨#[]⟩, .string ⟨#[]⟩, .string ⟨#[]⟩, .slice none 0 0] 37)).heap.size uh3.heap.size (CR rah rnh rkh) (((((uh3.setCell ⟨uh2.heap.size, 0, none⟩ (.int .i64 rc)).setCell ⟨uh2.heap.size, 1, none⟩ (.string rm)).setCell ⟨uh2.heap.size, 2, none⟩ (.string rh)).setCell ⟨uh2.heap.size, 3, none⟩ (.string rp)).setCell ⟨uh2.heap.size, 4, none⟩ (.slice rah rnh rkh)) ∧ (uh2.heap.size < (uh2.alloc (.cells #[.int .i64 0, .string ⟨#[]⟩, .string ⟨#[]⟩, .string ⟨#[]⟩, .slice none 0 0] 37)).heap.size ∨ uh3.heap.size ≤ uh2.heap.size) ∧ w165.heap.size ≤ uh2.heap.size ∧ w165.heap.size ≤ (uh2.alloc (.cells #[.int .i64 0, .string ⟨#[]⟩, .string ⟨#[]⟩, .string ⟨#[]⟩, .slice none 0 0] 37)).heap.size ∧ (uh2.alloc (.cells #[.int .i64 0, .string ⟨#[]⟩, .string ⟨#[]⟩, .string ⟨#[]⟩, .slice none 0 0] 37)).heap.size ≤ uh3.heap.size from ⟨BD.out, Bx.putAll Z3x3.out [.int .i64 rc, .string rm, .string rh, .string rp, .slice rah rnh rkh] rfl, At.putAll (.inl hXl) [.int .i64 rc, .string rm, .string rh, .string rp, .slice rah rnh rkh] 0 cr, .inl hXl, hXw, HBB.out.size, hb.size⟩); have z0 := Z3x3.out.val.1 0 _ rfl; have zf0 := Z3x3.out.val.2 0; have z1 := Z3x3.out.val.1 1 _ rfl; have zf1 := Z3x3.out.val.2 1; have z2 := Z3x3.out.val.1 2 _ rfl; have zf2 := Z3x3.out.val.2 2; have z3 := Z3x3.out.val.1 3 _ rfl; have zf3 := Z3x3.out.val.2 3; have z4 := Z3x3.out.val.1 4 _ rfl; have zf4 := Z3x3.out.val.2 4; clear hXl hXw cr hb; clear HBB)))
    all_goals (go_wp2_with fail; go_meet; exact ⟨_, _, _, _, _, _, rfl, FIN.out⟩)
  case rest =>
  obtain ⟨Xh, lsh, hsh, rah, rnh, rkh, rfl, r1, r2, r3, r4, r5, r6, r7⟩ := hcut
  have O174 : Hid ((Xh < lsh ∨ hsh ≤ Xh) ∧ w.heap.size ≤ lsh ∧ w.heap.size ≤ Xh ∧ lsh ≤ hsh ∧ (w.heap.size + 1) ≤ lsh ∧ (w.heap.size + 1) ≤ Xh ∧ ((w.heap.size + 1) + 1) ≤ lsh ∧ ((w.heap.size + 1) + 1) ≤ Xh ∧ hss ≤ lsh ∧ hss ≤ Xh ∧ (Xs + 1) ≤ lsh ∧ (Xs + 1) ≤ Xh ∧ (x87 + 1) ≤ lsh ∧ (x87 + 1) ≤ Xh ∧ h62 ≤ lsh ∧ h62 ≤ Xh) := ⟨r4, Nat.le_trans K166.out.size r6, Nat.le_trans K166.out.size r5, r7, Nat.le_trans F167.out.le r6, Nat.le_trans F167.out.le r5, Nat.le_trans F168.out.le r6, Nat.le_trans F168.out.le r5, Nat.le_trans F169.out.le r6, Nat.le_trans F169.out.le r5, Nat.le_trans F170.out.le r6, Nat.le_trans F170.out.le r5, Nat.le_trans F171.out.le r6, Nat.le_trans F171.out.le r5, Nat.le_trans F172.out.le r6, Nat.le_trans F172.out.le r5⟩
  have K175 : Hid (Below w.heap.size w wc) := K166.out.trans (r1.mono K166.out.size)
  have F176 : Hid (At w.heap.size (w.heap.size + 1) (Bx w.heap.size [.string qm, .string qh, .string qp, .slice qa qn qc]) wc) := F167.out.keep r1
  have F177 : Hid (At (w.heap.size + 1) ((w.heap.size + 1) + 1) (Bx (w.heap.size + 1) [.string ek, .int .i64 es, .slice ea en ec, .slice eb ebn ebc, .int .i64 e1, .int .i64 e2, .int .i64 e3, .int .i64 e4, .int .i64 e5, .bool f1, .bool f2, .slice et etn etc, .int .i64 ep]) wc) := F168.out.keep r1
  have F178 : Hid (At lss hss (CR ras rns rks) wc) := F169.out.keep r1
  have F179 : Hid (At Xs (Xs + 1) (Bx Xs [.int .i64 rc, .string rm, .string rh, .string rp, .slice ras rns rks]) wc) := F170.out.keep r1
  have F180 : Hid (At x87 (x87 + 1) (Bx x87 [.int .i64 rc, .string rm, .string rh, .string rp, .slice rag rng rkg]) wc) := F171.out.keep r1
  have F181 : Hid (At l61 h62 (MR rag rng rkg) wc) := F172.out.keep r1
  clear K166 F167 F168 F169 F170 F171 F172
  have F182 : Hid (At lsh hsh (CR rah rnh rkh) wc) := r3
  have F183 : Hid (At Xh (Xh + 1) (Bx Xh [.int .i64 rc, .string rm, .string rh, .string rp, .slice rah rnh rkh]) wc) := r2
  clear r1 r2 r3 r4 r5 r6 r7
  generalize wc = V173 at *
  clear HG
  have p0 := F183.out.val.1 0 _ rfl
  have p1 := F183.out.val.1 1 _ rfl
  have p2 := F183.out.val.1 2 _ rfl
  have p3 := F183.out.val.1 3 _ rfl
  have p4 := F183.out.val.1 4 _ rfl
  have s0 := F179.out.val.1 0 _ rfl
  have s1 := F179.out.val.1 1 _ rfl
  have s2 := F179.out.val.1 2 _ rfl
  have s3 := F179.out.val.1 3 _ rfl
  have s4 := F179.out.val.1 4 _ rfl
  go_wp2_with fail
  refine (HEQ.out _ _ _ _ _ _ _ _ _ _ _ F182.out F178.out).mono ?_
  rintro e0 w184 ⟨rfl, hb⟩
  clear p0 p1 p2 p3 p4 s0 s1 s2 s3 s4
  have K185 : Hid (Below w.heap.size w w184) := K175.out.trans (hb.mono K175.out.size)
  have F186 : Hid (At w.heap.size (w.heap.size + 1) (Bx w.heap.size [.string qm, .string qh, .string qp, .slice qa qn qc]) w184) := F176.out.keep hb
  have F187 : Hid (At (w.heap.size + 1) ((w.heap.size + 1) + 1) (Bx (w.heap.size + 1) [.string ek, .int .i64 es, .slice ea en ec, .slice eb ebn ebc, .int .i64 e1, .int .i64 e2, .int .i64 e3, .int .i64 e4, .int .i64 e5, .bool f1, .bool f2, .slice et etn etc, .int .i64 ep]) w184) := F177.out.keep hb
  have F188 : Hid (At lss hss (CR ras rns rks) w184) := F178.out.keep hb
  have F189 : Hid (At Xs (Xs + 1) (Bx Xs [.int .i64 rc, .string rm, .string rh, .string rp, .slice ras rns rks]) w184) := F179.out.keep hb
  have F190 : Hid (At x87 (x87 + 1) (Bx x87 [.int .i64 rc, .string rm, .string rh, .string rp, .slice rag rng rkg]) w184) := F180.out.keep hb
  have F191 : Hid (At l61 h62 (MR rag rng rkg) w184) := F181.out.keep hb
  have F192 : Hid (At lsh hsh (CR rah rnh rkh) w184) := F182.out.keep hb
  have F193 : Hid (At Xh (Xh + 1) (Bx Xh [.int .i64 rc, .string rm, .string rh, .string rp, .slice rah rnh rkh]) w184) := F183.out.keep hb
  clear K175 F176 F177 F178 F179 F180 F181 F182 F183 hb
  have p0 := F190.out.val.1 0 _ rfl
  have p1 := F190.out.val.1 1 _ rfl
  have p2 := F190.out.val.1 2 _ rfl
  have p3 := F190.out.val.1 3 _ rfl
  have p4 := F190.out.val.1 4 _ rfl
  go_wp2_with fail
  refine (HHR.out _ _ _ _ _ _ F191.out).mono ?_
  rintro e0 w194 ⟨rfl, hb⟩
  clear p0 p1 p2 p3 p4
  have K195 : Hid (Below w.heap.size w w194) := K185.out.trans (hb.mono K185.out.size)
  have F196 : Hid (At w.heap.size (w.heap.size + 1) (Bx w.heap.size [.string qm, .string qh, .string qp, .slice qa qn qc]) w194) := F186.out.keep hb
  have F197 : Hid (At (w.heap.size + 1) ((w.heap.size + 1) + 1) (Bx (w.heap.size + 1) [.string ek, .int .i64 es, .slice ea en ec, .slice eb ebn ebc, .int .i64 e1, .int .i64 e2, .int .i64 e3, .int .i64 e4, .int .i64 e5, .bool f1, .bool f2, .slice et etn etc, .int .i64 ep]) w194) := F187.out.keep hb
  have F198 : Hid (At lss hss (CR ras rns rks) w194) := F188.out.keep hb
  have F199 : Hid (At Xs (Xs + 1) (Bx Xs [.int .i64 rc, .string rm, .string rh, .string rp, .slice ras rns rks]) w194) := F189.out.keep hb
  have F200 : Hid (At x87 (x87 + 1) (Bx x87 [.int .i64 rc, .string rm, .string rh, .string rp, .slice rag rng rkg]) w194) := F190.out.keep hb
  have F201 : Hid (At l61 h62 (MR rag rng rkg) w194) := F191.out.keep hb
  have F202 : Hid (At lsh hsh (CR rah rnh rkh) w194) := F192.out.keep hb
  have F203 : Hid (At Xh (Xh + 1) (Bx Xh [.int .i64 rc, .string rm, .string rh, .string rp, .slice rah rnh rkh]) w194) := F193.out.keep hb
  clear K185 F186 F187 F188 F189 F190 F191 F192 F193 hb
  go_wp2_with fail
  go_ret
  exact ⟨rfl, K195.out⟩
end Go.Proofs.YtolkgnnjocmkdaaGreatDoor
/-
  Head lines in memory; the laws' own helpers over them.
-/
namespace Go.Proofs.YtolkgnnjocmkdaaGreatDoor
open Go.ChangeShapes Go.WideShapes Go.ChangeAt Go.RowKit
/-- A head line: its name and its value. -/
structure Hdr where
  name : ByteArray
  value : ByteArray
/-- The lines l lie in block b from off on, two cells each. -/
def HeadsAt (w : World) (b off : Nat) (l : List Hdr) : Prop :=
  ∀ (i : Nat) r, l[i]? = some r → w.cell? ⟨b, off + i * 2, none⟩ = some (.string r.name) ∧ w.cell? ⟨b, off + i * 2 + 1, none⟩ = some (.string r.value)
def hdrV (r : Hdr) : Value := .agg #[.string r.name, .string r.value]
def szH (left : Int) (r : Hdr) : Int := if left - (r.name.size : Int) < 0 then -1 else if left - (r.name.size : Int) - (r.value.size : Int) < 0 then -1 else left - (r.name.size : Int) - (r.value.size : Int)
set_option maxHeartbeats 400000 in
theorem szHeader_any (r : Hdr) (left : Int) (w : World) (h0 : 0 ≤ left) (h1 : left ≤ 1048576) (z1 : r.name.size ≤ maxLen) (z2 : r.value.size ≤ maxLen) :
    Calls Tryz.prog 117 #[.agg #[.string r.name, .string r.value], .int .i64 left] w fun e w' => e = .returned (.int .i64 (szH left r)) ∧ Below w.heap.size w w' := by
  unfold maxLen at z1 z2
  obtain ⟨n, v⟩ := r
  simp only at z1 z2 ⊢
  by_cases c1 : left - (n.size : Int) < 0
  · have HE : Hid (szH left ⟨n, v⟩ = -1) := by show _ = _; simp [szH, c1]
    go_enter Tryz.func117, Tryz.ntmps117
    go_wp2
    go_ret
    exact ⟨ret_int HE.out.symm, (Below.refl _ _).alloc (Nat.le_refl _) _⟩
  · by_cases c2 : left - (n.size : Int) - (v.size : Int) < 0
    · have HE : Hid (szH left ⟨n, v⟩ = -1) := by show _ = _; simp [szH, c1, c2]
      go_enter Tryz.func117, Tryz.ntmps117
      go_wp2
      go_ret
      exact ⟨ret_int HE.out.symm, (Below.refl _ _).alloc (Nat.le_refl _) _⟩
    · have HE : Hid (szH left ⟨n, v⟩ = left - (n.size : Int) - (v.size : Int)) := by show _ = _; simp [szH, c1, c2]
      go_enter Tryz.func117, Tryz.ntmps117
      go_wp2
      go_ret
      exact ⟨ret_int HE.out.symm, (Below.refl _ _).alloc (Nat.le_refl _) _⟩
set_option maxHeartbeats 400000 in
theorem toHeader_any (r : Hdr) (w : World) :
    Calls Tryz.prog 125 #[.agg #[.string r.name, .string r.value]] w fun e w' => e = .returned (.agg #[.string r.name, .string r.value]) ∧ Below w.heap.size w w' := by
  obtain ⟨n, v⟩ := r
  simp only
  go_enter Tryz.func125, Tryz.ntmps125
  go_wp2
  exact bodyPost_ret (v := .agg #[.string n, .string v]) (by simp [results, Tryz.results125, go_sem]) rfl ⟨rfl, (((Below.refl _ _).alloc (Nat.le_refl _) _).alloc (by simp) _).alloc (by simp; omega) _⟩
set_option maxHeartbeats 400000 in
theorem eqHeader_same (r : Hdr) (w : World) :
    Calls Tryz.prog 127 #[.agg #[.string r.name, .string r.value], .agg #[.string r.name, .string r.value]] w fun e w' => e = .returned (.bool true) ∧ Below w.heap.size w w' := by
  obtain ⟨n, v⟩ := r
  simp only
  go_enter Tryz.func127, Tryz.ntmps127
  go_wp2
  go_ret
  exact ⟨rfl, ((Below.refl _ _).alloc (Nat.le_refl _) _).alloc (by simp) _⟩
/-- How much room is left behind the items; -1: none. -/
def szHs (left : Int) : List Hdr → Int
  | [] => left
  | r :: l => if szH left r < 0 then -1 else szHs (szH left r) l
def szHL (left : Int) (l : List Hdr) : Int := if left - (l.length : Int) < 0 then -1 else szHs (left - (l.length : Int)) l
def SmallHdrs (l : List Hdr) : Prop := ∀ (i : Nat) r, l[i]? = some r → r.name.size ≤ maxLen ∧ r.value.size ≤ maxLen
theorem HeadsAt.keep {w w' : World} {b off : Nat} {l : List Hdr} (h : HeadsAt w b off l) (hb : Below w.heap.size w w') : HeadsAt w' b off l := by
  intro i r hr
  obtain ⟨a1, a3⟩ := h i r hr
  exact ⟨by rw [hb.cell (block_lt_of_cell a1)]; exact a1, by rw [hb.cell (block_lt_of_cell a3)]; exact a3⟩
theorem szH_le (left : Int) (r : Hdr) : szH left r ≤ left ∨ szH left r = -1 := by
  unfold szH
  split
  · exact .inr rfl
  · split
    · exact .inr rfl
    · left; omega
theorem drop_hdr (l : List Hdr) (k : Nat) (r : Hdr) (h : l[k]? = some r) : l.drop k = r :: l.drop (k + 1) := by
  obtain ⟨hk, rfl⟩ := List.getElem?_eq_some_iff.1 h
  exact List.drop_eq_getElem_cons hk
set_option maxHeartbeats 2000000 in
theorem szHeaderS_any (w : World) (a : Option Addr) (cap : Nat) (l : List Hdr) (hl : l.length ≤ maxLen) (hi : l = [] ∨ ∃ b off, a = some ⟨b, off, none⟩ ∧ HeadsAt w b off l) (hz : SmallHdrs l) (left : Int) (h0 : 0 ≤ left) (h1 : left ≤ 1048576) :
    Calls Tryz.prog 53 #[.slice a l.length cap, .int .i64 left] w fun e w' => e = .returned (.int .i64 (szHL left l)) ∧ Below w.heap.size w w' := by
  unfold maxLen at hl
  have HI : Hid (l = [] ∨ ∃ b off, a = some ⟨b, off, none⟩ ∧ HeadsAt w b off l) := hi
  have HZ : Hid (SmallHdrs l) := hz
  clear hi hz
  generalize hn : l.length = n at *
  have HN : Hid (l.length = n) := hn
  by_cases c0 : left - (n : Int) < 0
  · have HE : Hid (szHL left l = -1) := by show _ = _; unfold szHL; rw [hn, if_pos c0]
    clear hn
    go_enter Tryz.func53, Tryz.ntmps53
    go_wp2
    go_ret
    exact ⟨ret_int HE.out.symm, Below.refl _ _⟩
  have HE : Hid (szHL left l = szHs (left - (n : Int)) l) := by show _ = _; unfold szHL; rw [hn, if_neg c0]
  have c0' : 0 ≤ left - (n : Int) := by omega
  clear hn
  go_enter Tryz.func53, Tryz.ntmps53
  go_wp2_with fail
  go_loopw [1, 5] (fun x i wr => ∃ (k : Nat) (c : Int), k ≤ n ∧ i = .int .i64 k ∧ x = .int .i64 c ∧ 0 ≤ c ∧ c ≤ 1048576 ∧ szHL left l = szHs c (l.drop k) ∧ Below w.heap.size w wr) (fun _ i _ => n - (intOf i).toNat)
  case atStart => exact ⟨0, left - (n : Int), Nat.zero_le _, rfl, rfl, c0', by omega, HE.out, Below.refl _ _⟩
  case round =>
    obtain ⟨k, c, hk, rfl, rfl, c2, c3, hs, hb⟩ := hrel
    have HS : Hid (szHL left l = szHs c (l.drop k)) := hs
    clear hs HE
    by_cases hlt : k < n
    · obtain ⟨r, hr⟩ : ∃ r, l[k]? = some r := ⟨l[k]'(by have := HN.out; omega), List.getElem?_eq_getElem _⟩
      rcases HI.out with h | ⟨b, off, rfl, hat⟩
      · subst h; simp at hr
      obtain ⟨p1, p3⟩ := (hat.keep hb) k r hr
      obtain ⟨z1, z2⟩ := HZ.out k r hr
      have HS2 : Hid (szHL left l = if szH c r < 0 then -1 else szHs (szH c r) (l.drop (k + 1))) := by
        show _ = _
        rw [HS.out, drop_hdr l k r hr, szHs]
      have HC : Hid (∀ w, Calls Tryz.prog 117 #[.agg #[.string r.name, .string r.value], .int .i64 c] w fun e w' => e = .returned (.int .i64 (szH c r)) ∧ Below w.heap.size w w') := fun w => szHeader_any r c w c2 c3 z1 z2
      have hle := szH_le c r
      have g : (k : Int) < n := by omega
      clear HS hr hat z1 z2 HI
      generalize szH c r = d at *
      generalize r.name = rn at *
      generalize r.value = rv at *
      go_wp2_with fail
      refine (HC.out _).mono ?_
      rintro e w2 ⟨rfl, hb2⟩
      have hbb : Below w.heap.size w w2 := hb.trans (hb2.mono hb.size)
      clear hb2 hb p1 p3 HC
      by_cases hd : d < 0
      · have HF : Hid (szHL left l = -1) := by show _ = _; rw [HS2.out, if_pos hd]
        clear HS2
        go_wp2_with fail
        go_ret
        exact ⟨ret_int HF.out.symm, hbb⟩
      · have HF : Hid (szHL left l = szHs d (l.drop (k + 1))) := by show _ = _; rw [HS2.out, if_neg hd]
        clear HS2
        go_wp2_with fail
        go_roundw
        case rel => exact ⟨k + 1, d, by omega, by go_num, rfl, by omega, by omega, HF.out, hbb⟩
        case measure => simp [intOf]; omega
    · have HF : Hid (szHL left l = c) := by
        show _ = _
        rw [HS.out, List.drop_of_length_le (by have := HN.out; omega), szHs]
      clear HS
      go_wp2_with fail
      go_ret
      exact ⟨ret_int HF.out.symm, hb⟩
end Go.Proofs.YtolkgnnjocmkdaaGreatDoor
/-
  The laws' copy of a list of items, and their comparing of two.
-/
namespace Go.Proofs.YtolkgnnjocmkdaaGreatDoor
open Go.ChangeShapes Go.WideShapes Go.ChangeAt Go.RowKit Go.Sort
/-- m cells from the head of block G on are there and may be written. -/
def HRoom (w : World) (G m : Nat) : Prop := ∀ j, j < m → (∃ u, w.cell? ⟨G, j, none⟩ = some u) ∧ w.frozen? ⟨G, j, none⟩ = false
theorem HRoom.keep {w w' : World} {G m : Nat} (h : HRoom w G m) (hb : Below w.heap.size w w') : HRoom w' G m := by
  intro j hj
  obtain ⟨⟨u, hu⟩, hf⟩ := h j hj
  exact ⟨⟨u, by rw [hb.cell (block_lt_of_cell hu)]; exact hu⟩, by rw [hb.frozen (block_lt_of_cell hu)]; exact hf⟩
theorem HRoom.set {w : World} {G m : Nat} (h : HRoom w G m) (a : Addr) (v : Value) : HRoom (w.setCell a v) G m := by
  intro j hj
  obtain ⟨⟨u, hu⟩, hf⟩ := h j hj
  refine ⟨?_, by rw [World.frozen?_setCell]; exact hf⟩
  by_cases e : a = ⟨G, j, none⟩
  · exact ⟨v, by subst e; exact World.cell?_setCell_same _ _ _ hu⟩
  · exact ⟨u, by rw [World.cell?_setCell_other _ _ _ _ e]; exact hu⟩
def put2 (w : World) (G k : Nat) (r : Hdr) : World := (w.setCell ⟨G, k * 2, none⟩ (.string r.name)).setCell ⟨G, k * 2 + 1, none⟩ (.string r.value)
theorem hoff_ne {G i j : Nat} (h : i ≠ j) : (⟨G, i, none⟩ : Addr) ≠ ⟨G, j, none⟩ := fun e => h (congrArg Addr.off e)
theorem put2_other (w : World) (G k : Nat) (r : Hdr) (j : Nat) (h0 : k * 2 ≠ j) (h1 : k * 2 + 1 ≠ j) : (put2 w G k r).cell? ⟨G, j, none⟩ = w.cell? ⟨G, j, none⟩ := by
  unfold put2
  rw [World.cell?_setCell_other _ _ _ _ (hoff_ne h1), World.cell?_setCell_other _ _ _ _ (hoff_ne h0)]
theorem HRoom.put {w : World} {G m : Nat} (h : HRoom w G m) (k : Nat) (r : Hdr) : HRoom (put2 w G k r) G m := (h.set _ _).set _ _
theorem HeadsAt.put {w : World} {G n : Nat} {l : List Hdr} {k : Nat} {r : Hdr} (h : HeadsAt w G 0 (l.take k)) (hr : l[k]? = some r) (hm : HRoom w G (n * 2)) (hk : k < n) : HeadsAt (put2 w G k r) G 0 (l.take (k + 1)) := by
  intro i q hq
  have hi : i < k + 1 := by
    have := (List.getElem?_eq_some_iff.1 hq).1
    simp at this; omega
  rw [List.getElem?_take_of_lt hi] at hq
  simp only [Nat.zero_add]
  by_cases e : i = k
  · subst e
    rw [hr] at hq
    obtain rfl := Option.some.inj hq
    obtain ⟨⟨u0, g0⟩, _⟩ := hm (i * 2) (by omega)
    obtain ⟨⟨u1, g1⟩, _⟩ := (hm.set ⟨G, i * 2, none⟩ (.string r.name)) (i * 2 + 1) (by omega)
    unfold put2
    refine ⟨?_, World.cell?_setCell_same _ _ _ g1⟩
    rw [World.cell?_setCell_other _ _ _ _ (hoff_ne (by omega))]
    exact World.cell?_setCell_same _ _ _ g0
  · have hq2 : (l.take k)[i]? = some q := by rw [List.getElem?_take_of_lt (by omega)]; exact hq
    obtain ⟨a1, a3⟩ := h i q hq2
    simp only [Nat.zero_add] at a1 a3
    exact ⟨by rw [put2_other _ _ _ _ _ (by omega) (by omega)]; exact a1, by rw [put2_other _ _ _ _ _ (by omega) (by omega)]; exact a3⟩
theorem infoHeader : (Tryz.prog.info? 110).map (fun i => (i.zero, i.size, i.bytes)) = some (some (.agg #[.string ⟨#[]⟩, .string ⟨#[]⟩]), 2, 32) := by kernel_rfl
set_option maxHeartbeats 2000000 in
theorem toHeaderS_any (w : World) (a : Option Addr) (cap : Nat) (l : List Hdr) (hl : l.length ≤ 1048576) (hi : l = [] ∨ ∃ b off, a = some ⟨b, off, none⟩ ∧ HeadsAt w b off l) :
    Calls Tryz.prog 59 #[.slice a l.length cap] w fun e w' => e = .returned (.slice (some ⟨w.heap.size, 0, none⟩) l.length l.length) ∧ HeadsAt w' w.heap.size 0 l ∧ Below w.heap.size w w' := by
  have HI : Hid (l = [] ∨ ∃ b off, a = some ⟨b, off, none⟩ ∧ HeadsAt w b off l) := hi
  obtain ⟨i0, hi0, hz0, hz1, hz2⟩ := info_parts infoHeader
  clear hi
  generalize hn : l.length = n at *
  have HN : Hid (l.length = n) := hn
  clear hn
  go_enter Tryz.func59, Tryz.ntmps59
  go_wp2_with (at_make; refine wpList_make_full w rfl _ _ 33 rfl w.heap.size 110 i0 _ 2 Tryz.underlying33 hi0 hz0 hz1 _ _ _ _ n rfl rfl rfl rfl (by rw [hz2]; omega) (by unfold maxLen; omega) (Nat.le_refl _) ?_; intro w1 hown hgrow)
  have HR1 : Hid (HRoom w1 w.heap.size (n * 2) ∧ Below w.heap.size w w1) := by
    refine ⟨fun j hj => ⟨?_, hown.frozenAt j⟩, (Below.refl _ _).grown hgrow (Nat.le_refl _) (fun q hq => by cases hq)⟩
    have h1 := hown.cellAt j hj
    have h2 : j < (madeCells (Value.agg #[.string ⟨#[]⟩, .string ⟨#[]⟩]).cells (n * 2)).toList.length := by have := hown.1; omega
    exact ⟨_, h1.trans (List.getElem?_eq_getElem h2)⟩
  clear hown hgrow
  go_loopw [4] (fun i wr => ∃ k : Nat, k ≤ n ∧ i = .int .i64 k ∧ HeadsAt wr w.heap.size 0 (l.take k) ∧ HRoom wr w.heap.size (n * 2) ∧ Below w.heap.size w wr) (fun i _ => n - (intOf i).toNat)
  case atStart => exact ⟨0, Nat.zero_le _, rfl, fun i r hr => by simp at hr, HR1.out.1, HR1.out.2⟩
  case round =>
    obtain ⟨k, hk, rfl, hat, hroom, hb⟩ := hrel
    clear HR1
    by_cases hlt : k < n
    · obtain ⟨r, hr⟩ : ∃ r, l[k]? = some r := ⟨l[k]'(by have := HN.out; omega), List.getElem?_eq_getElem _⟩
      rcases HI.out with h | ⟨b, off, rfl, hsrc⟩
      · subst h; simp at hr
      have hblt : b < w.heap.size := block_lt_of_cell (hsrc k r hr).1
      have hkeep := (hsrc.keep (w' := w) (Below.refl _ _)) k r hr
      have p1 : wr.cell? ⟨b, off + k * 2, none⟩ = some (.string r.name) := by rw [hb.cell (p := ⟨b, off + k * 2, none⟩) hblt]; exact hkeep.1
      have p3 : wr.cell? ⟨b, off + k * 2 + 1, none⟩ = some (.string r.value) := by rw [hb.cell (p := ⟨b, off + k * 2 + 1, none⟩) hblt]; exact hkeep.2
      have HA : Hid (HeadsAt wr w.heap.size 0 (l.take k)) := hat
      have HM : Hid (HRoom wr w.heap.size (n * 2)) := hroom
      have HR : Hid (l[k]? = some r) := hr
      have g : (k : Int) < n := by omega
      clear hat hroom hr hsrc hkeep HI
      go_wp2_with fail
      refine (toHeader_any r _).mono ?_
      rintro e w2 ⟨rfl, hb2⟩
      have HA2 : Hid (HeadsAt w2 w.heap.size 0 (l.take k)) := HA.out.keep hb2
      have HM2 : Hid (HRoom w2 w.heap.size (n * 2)) := HM.out.keep hb2
      have hbb : Below w.heap.size w w2 := hb.trans (hb2.mono hb.size)
      obtain ⟨⟨u0, g0⟩, f0⟩ := HM2.out (k * 2) (by omega)
      obtain ⟨⟨u1, g1⟩, f1⟩ := HM2.out (k * 2 + 1) (by omega)
      have HP : Hid (HeadsAt (put2 w2 w.heap.size k r) w.heap.size 0 (l.take (k + 1)) ∧ HRoom (put2 w2 w.heap.size k r) w.heap.size (n * 2)) := ⟨HA2.out.put HR.out HM2.out hlt, HM2.out.put k r⟩
      clear HA HM HA2 HM2 hb2 hb p1 p3
      obtain ⟨rn, rv⟩ := r
      go_wp2_with fail
      go_roundw
      case rel => exact ⟨k + 1, by omega, by go_num, HP.out.1, HP.out.2, (hbb.setCell (Nat.le_refl _) _).setCell (Nat.le_refl _) _⟩
      case measure => simp [intOf]; omega
    · have HF : Hid (HeadsAt wr w.heap.size 0 l) := by
        have e : l.take k = l := List.take_of_length_le (by have := HN.out; omega)
        rw [e] at hat
        exact hat
      clear hat hroom
      go_wp2_with fail
      go_ret
      exact ⟨rfl, HF.out, hb⟩
end Go.Proofs.YtolkgnnjocmkdaaGreatDoor
/-
  What the laws over lists of items share.
-/
namespace Go.Proofs.YtolkgnnjocmkdaaGreatDoor
open Go.ChangeShapes Go.WideShapes Go.ChangeAt Go.RowKit
/-- The slice at a holds the items l. -/
def HdsIn (w : World) (a : Option Addr) (l : List Hdr) : Prop := l = [] ∨ ∃ b off, a = some ⟨b, off, none⟩ ∧ HeadsAt w b off l
theorem HdsIn.keep {w w' : World} {a : Option Addr} {l : List Hdr} (h : HdsIn w a l) (hb : Below w.heap.size w w') : HdsIn w' a l := by
  rcases h with h | ⟨b, off, e, hat⟩
  · exact .inl h
  · exact .inr ⟨b, off, e, hat.keep hb⟩
theorem szH_room {left : Int} {r : Hdr} (h : ¬ szH left r < 0) : (r.name.size : Int) ≤ left ∧ (r.value.size : Int) ≤ left ∧ szH left r ≤ left := by
  by_cases c1 : left - (r.name.size : Int) < 0
  · rw [show szH left r = -1 from by simp [szH, c1]] at h; omega
  · by_cases c2 : left - (r.name.size : Int) - (r.value.size : Int) < 0
    · rw [show szH left r = -1 from by simp [szH, c1, c2]] at h; omega
    · have e : szH left r = left - (r.name.size : Int) - (r.value.size : Int) := by simp [szH, c1, c2]
      rw [e]
      omega
theorem szHs_room (l : List Hdr) : ∀ left : Int, ¬ szHs left l < 0 → left ≤ 1048576 → ∀ (i : Nat) r, l[i]? = some r → r.name.size ≤ 1048576 ∧ r.value.size ≤ 1048576 := by
  induction l with
  | nil => intro left _ _ i r hr; simp at hr
  | cons x l ih =>
    intro left h hl i r hr
    rw [szHs] at h
    by_cases c : szH left x < 0
    · rw [if_pos c] at h; omega
    · rw [if_neg c] at h
      obtain ⟨z1, z2, z3⟩ := szH_room c
      cases i with
      | zero => simp at hr; subst hr; omega
      | succ i => exact ih _ h (by omega) i r (by simpa using hr)
theorem szHL_room {l : List Hdr} {left : Int} (hl : left ≤ 1048576) (h : ¬ szHL left l < 0) : (l.length : Int) ≤ 1048576 ∧ ∀ (i : Nat) r, l[i]? = some r → r.name.size ≤ 1048576 ∧ r.value.size ≤ 1048576 := by
  unfold szHL at h
  by_cases c : left - (l.length : Int) < 0
  · rw [if_pos c] at h; omega
  · rw [if_neg c] at h
    exact ⟨by omega, szHs_room l _ h (by omega)⟩
theorem szHs_le (l : List Hdr) : ∀ left : Int, szHs left l ≤ left ∨ szHs left l < 0 := by
  induction l with
  | nil => intro left; exact .inl (Int.le_refl _)
  | cons x l ih =>
    intro left
    rw [szHs]
    by_cases c : szH left x < 0
    · rw [if_pos c]; right; decide
    · rw [if_neg c]
      have := (szH_room c).2.2
      rcases ih (szH left x) with h | h
      · left; omega
      · right; exact h
theorem szHL_le {l : List Hdr} {left : Int} (h : ¬ szHL left l < 0) : szHL left l ≤ left := by
  unfold szHL at h ⊢
  by_cases c : left - (l.length : Int) < 0
  · rw [if_pos c] at h; omega
  · rw [if_neg c] at h ⊢
    rcases szHs_le l (left - (l.length : Int)) with x | x <;> omega
end Go.Proofs.YtolkgnnjocmkdaaGreatDoor
/-
  A row of bytes in memory, and small letters: no function of the program in sight.
-/
namespace Go.Proofs.YtolkgnnjocmkdaaGreatDoor
/-- The block B holds the bytes l from its head on, none of them frozen. -/
structure BRow (w : World) (B : Nat) (l : List UInt8) : Prop where
  cell : ∀ j (hj : j < l.length), w.cell? ⟨B, j, none⟩ = some (.int .u8 (l[j].toNat : Int))
  free : ∀ j, j < l.length → w.frozen? ⟨B, j, none⟩ = false
theorem BRow.set {w : World} {B : Nat} {l : List UInt8} (h : BRow w B l) (k : Nat) (x : UInt8) : BRow (w.setCell ⟨B, k, none⟩ (.int .u8 (x.toNat : Int))) B (l.set k x) := by
  constructor
  · intro j hj
    simp only [List.length_set] at hj
    by_cases e : k = j
    · subst e
      rw [World.cell?_setCell_same _ _ _ (h.cell k hj)]
      simp
    · rw [World.cell?_setCell_other _ _ _ _ (by intro h2; exact e (congrArg Addr.off h2)), h.cell j hj, List.getElem_set_ne e]
  · intro j hj
    simp only [List.length_set] at hj
    rw [World.frozen?_setCell]
    exact h.free j hj
/-- What a conversion from a text lays. -/
theorem BRow.made (w : World) (s : ByteArray) (cap : Nat) (C : Array Value) (hC : C = bytesRow s cap) : BRow (w.alloc (.cells C 5 (C.size, C.size + 1))) w.heap.size s.data.toList := by
  subst hC
  have hsz : s.data.size ≤ (bytesRow s cap).size := by simp [bytesRow]
  constructor
  · intro j hj
    have hj' : j < s.data.size := by simpa using hj
    rw [World.cell?_alloc_mark, bytesRow_at s cap j hj']
    simp
  · intro j hj
    have hj' : j < s.data.size := by simpa using hj
    rw [World.frozen?_alloc_mark]
    simp
    omega
theorem BRow.back {P : Program} {w : World} {B : Nat} {l : List UInt8} (h : BRow w B l) (src dst e : TypeId) (n cap : Nat) (hn : n = l.length) (hs : P.underlying src = some (.slice e)) (he : P.underlying e = some (.int .u8)) (hd : P.underlying dst = some .string) :
    (convert src dst (.slice (some ⟨B, 0, none⟩) n cap)).run P w = .ok (.string ⟨l.toArray⟩) w := by
  subst hn
  refine run_convert_bytes_back w src dst e ⟨B, 0, none⟩ cap l hs he hd ?_
  intro j hj
  have := h.cell j hj
  by_cases e : j = 0
  · subst e; simpa [Addr.add] using this
  · simpa [Addr.add, e] using this
def lowU (c : UInt8) : UInt8 := if 65 ≤ (c.toNat : Int) ∧ (c.toNat : Int) ≤ 90 then UInt8.ofNat (c.toNat + 32) else c
theorem lowU_yes (c : UInt8) (h1 : 65 ≤ (c.toNat : Int)) (h2 : (c.toNat : Int) ≤ 90) : ((lowU c).toNat : Int) = (c.toNat : Int) + 32 := by
  unfold lowU
  rw [if_pos ⟨h1, h2⟩]
  simp
  omega
theorem lowU_no (c : UInt8) (h : ¬ (65 ≤ (c.toNat : Int) ∧ (c.toNat : Int) ≤ 90)) : lowU c = c := by
  unfold lowU
  rw [if_neg h]
/-- The bytes behind k rounds. -/
def lowK (l : List UInt8) (k : Nat) : List UInt8 := (l.take k).map lowU ++ l.drop k
theorem lowK_zero (l : List UInt8) : lowK l 0 = l := by simp [lowK]
theorem lowK_all (l : List UInt8) (k : Nat) (h : l.length ≤ k) : lowK l k = l.map lowU := by
  simp [lowK, List.take_of_length_le h, List.drop_of_length_le h]
theorem lowK_length (l : List UInt8) (k : Nat) : (lowK l k).length = l.length := by simp [lowK]; omega
theorem lowK_at? (l : List UInt8) (k : Nat) (h : k < l.length) : (lowK l k)[k]? = some l[k] := by
  unfold lowK
  rw [List.getElem?_append_right (by simp; omega)]
  simp [Nat.min_eq_left (Nat.le_of_lt h)]
theorem lowK_at (l : List UInt8) (k : Nat) (h : k < l.length) (h' : k < (lowK l k).length) : (lowK l k)[k] = l[k] := by
  have := lowK_at? l k h
  rw [List.getElem?_eq_getElem h'] at this
  exact Option.some.inj this
theorem lowK_succ (l : List UInt8) (k : Nat) (h : k < l.length) : lowK l (k + 1) = (lowK l k).set k (lowU l[k]) := by
  have hm : min k l.length = k := Nat.min_eq_left (Nat.le_of_lt h)
  unfold lowK
  rw [List.take_succ_eq_append_getElem h, List.map_append, List.drop_eq_getElem_cons h]
  rw [List.set_append_right _ _ (by simp [hm])]
  simp only [List.length_map, List.length_take, hm, Nat.sub_self, List.set_cons_zero, List.map_cons, List.map_nil, List.append_assoc, List.cons_append, List.nil_append]
theorem lowK_keep (l : List UInt8) (k : Nat) (h : k < l.length) (hn : ¬ (65 ≤ (l[k].toNat : Int) ∧ (l[k].toNat : Int) ≤ 90)) : lowK l (k + 1) = lowK l k := by
  have h2 : k < (lowK l k).length := by rw [lowK_length]; exact h
  rw [lowK_succ l k h, lowU_no _ hn, ← lowK_at l k h h2, List.set_getElem_self]
end Go.Proofs.YtolkgnnjocmkdaaGreatDoor
/-
  Rows of bytes: the laws' own helpers over them.
-/
namespace Go.Proofs.YtolkgnnjocmkdaaGreatDoor
open Go.ChangeShapes Go.WideShapes Go.ChangeAt Go.RowKit Go.Sort
def BAt (w : World) (b off : Nat) (l : List UInt8) : Prop := ∀ (i : Nat) c, l[i]? = some c → w.cell? ⟨b, off + i, none⟩ = some (.int .u8 (c.toNat : Int))
theorem BAt.keep {w w' : World} {b off : Nat} {l : List UInt8} (h : BAt w b off l) (hb : Below w.heap.size w w') : BAt w' b off l := by
  intro i c hc
  have := h i c hc
  rw [hb.cell (block_lt_of_cell this)]; exact this
def BIn (w : World) (a : Option Addr) (l : List UInt8) : Prop := l = [] ∨ ∃ b off, a = some ⟨b, off, none⟩ ∧ BAt w b off l
theorem BIn.keep {w w' : World} {a : Option Addr} {l : List UInt8} (h : BIn w a l) (hb : Below w.heap.size w w') : BIn w' a l := by
  rcases h with h | ⟨b, off, e, h⟩
  · exact .inl h
  · exact .inr ⟨b, off, e, h.keep hb⟩
structure BMine (W : World) (B : Nat) (l : List UInt8) : Prop where
  at0 : BAt W B 0 l
  free : ∀ o, o < l.length → W.frozen? ⟨B, o, none⟩ = false
  lt : B < W.heap.size
theorem BMine.keep {W W' : World} {B : Nat} {l : List UInt8} (h : BMine W B l) (hb : Below W.heap.size W W') : BMine W' B l :=
  ⟨h.at0.keep hb, fun o ho => by rw [hb.frozen (p := ⟨B, o, none⟩) h.lt]; exact h.free o ho, Nat.lt_of_lt_of_le h.lt hb.size⟩
theorem BMine.in {W : World} {B : Nat} {l : List UInt8} (h : BMine W B l) : BIn W (some ⟨B, 0, none⟩) l := .inr ⟨B, 0, rfl, h.at0⟩
set_option maxHeartbeats 400000 in
theorem szByteS_any (a : Option Addr) (n cap : Nat) (left : Int) (w : World) (h0 : 0 ≤ left) (h1 : left ≤ 1048576) (hn : n ≤ maxLen) :
    Calls Tryz.prog 54 #[.slice a n cap, .int .i64 left] w fun e w' => e = .returned (.int .i64 (if left - (n : Int) < 0 then -1 else left - (n : Int))) ∧ w' = w := by
  unfold maxLen at hn
  by_cases c : left - (n : Int) < 0
  · rw [if_pos c]
    go_enter Tryz.func54, Tryz.ntmps54
    go_wp2
    go_ret
    exact ⟨rfl, rfl⟩
  · rw [if_neg c]
    go_enter Tryz.func54, Tryz.ntmps54
    go_wp2
    go_ret
    exact ⟨rfl, rfl⟩
theorem infoByteR : (Tryz.prog.info? 5).map (fun i => (i.zero, i.size, i.bytes)) = some (some (.int .u8 0), 1, 1) := by kernel_rfl
theorem BAt.put {w : World} {G : Nat} {l : List UInt8} {k n : Nat} {c : UInt8} (h : BAt w G 0 (l.take k)) (hr : l[k]? = some c) (hm : HRoom w G n) (hk : k < n) : BAt (w.setCell ⟨G, k, none⟩ (.int .u8 (c.toNat : Int))) G 0 (l.take (k + 1)) := by
  intro i q hq
  have hi : i < k + 1 := by
    have := (List.getElem?_eq_some_iff.1 hq).1
    simp at this; omega
  rw [List.getElem?_take_of_lt hi] at hq
  simp only [Nat.zero_add]
  by_cases e : i = k
  · subst e
    rw [hr] at hq
    obtain rfl := Option.some.inj hq
    obtain ⟨⟨u0, g0⟩, _⟩ := hm i (by omega)
    exact World.cell?_setCell_same _ _ _ g0
  · have hq2 : (l.take k)[i]? = some q := by rw [List.getElem?_take_of_lt (by omega)]; exact hq
    have a1 := h i q hq2
    simp only [Nat.zero_add] at a1
    rw [World.cell?_setCell_other _ _ _ _ (hoff_ne (by omega))]; exact a1
set_option maxHeartbeats 2000000 in
theorem toByteS_any (w : World) (a : Option Addr) (cap : Nat) (l : List UInt8) (hl : l.length ≤ 1048576) (hi : BIn w a l) :
    Calls Tryz.prog 60 #[.slice a l.length cap] w fun e w' => e = .returned (.slice (some ⟨w.heap.size, 0, none⟩) l.length l.length) ∧ BMine w' w.heap.size l ∧ Below w.heap.size w w' := by
  have HI : Hid (BIn w a l) := hi
  obtain ⟨i0, hi0, hz0, hz1, hz2⟩ := info_parts infoByteR
  clear hi
  generalize hn : l.length = n at *
  have HN : Hid (l.length = n) := hn
  clear hn
  go_enter Tryz.func60, Tryz.ntmps60
  go_wp2_with (at_make; refine wpList_make_full w rfl _ _ 25 rfl w.heap.size 5 i0 _ 1 Tryz.underlying25 hi0 hz0 hz1 _ _ _ _ n rfl rfl rfl rfl (by rw [hz2]; omega) (by unfold maxLen; omega) (Nat.le_refl _) ?_; intro w1 hown hgrow)
  have HR1 : Hid (HRoom w1 w.heap.size n ∧ (w.heap.size < w1.heap.size ∧ ∀ o, w1.frozen? ⟨w.heap.size, o, none⟩ = false) ∧ Below w.heap.size w w1) := by
    refine ⟨fun j hj => ⟨?_, hown.frozenAt j⟩, ⟨?lt, fun o => hown.frozenAt o⟩, (Below.refl _ _).grown hgrow (Nat.le_refl _) (fun q hq => by cases hq)⟩
    case lt =>
      obtain ⟨_, h | ⟨g, c, cur, e, _, hh, _⟩⟩ := hown
      · cases h.1
      · simp only [Value.slice.injEq, Option.some.injEq] at e
        have e1 := congrArg Addr.block e.1
        simp only at e1
        rw [e1]
        exact (Array.getElem?_eq_some_iff.1 hh).1
    have h1 := hown.cellAt j (by omega)
    have h2 : j < (madeCells (Value.int .u8 0).cells (n * 1)).toList.length := by have := hown.1; omega
    exact ⟨_, h1.trans (List.getElem?_eq_getElem h2)⟩
  clear hown hgrow
  go_loopw [4] (fun i wr => ∃ k : Nat, k ≤ n ∧ i = .int .i64 k ∧ BAt wr w.heap.size 0 (l.take k) ∧ HRoom wr w.heap.size n ∧ (w.heap.size < wr.heap.size ∧ ∀ o, wr.frozen? ⟨w.heap.size, o, none⟩ = false) ∧ Below w.heap.size w wr) (fun i _ => n - (intOf i).toNat)
  case atStart => exact ⟨0, Nat.zero_le _, rfl, fun i r hr => by simp at hr, HR1.out.1, HR1.out.2.1, HR1.out.2.2⟩
  case round =>
    obtain ⟨k, hk, rfl, hat, hroom, hfr, hb⟩ := hrel
    have HFR : Hid (w.heap.size < wr.heap.size ∧ ∀ o, wr.frozen? ⟨w.heap.size, o, none⟩ = false) := hfr
    clear hfr HR1
    by_cases hlt : k < n
    · obtain ⟨c, hr⟩ : ∃ r, l[k]? = some r := ⟨l[k]'(by have := HN.out; omega), List.getElem?_eq_getElem _⟩
      rcases HI.out with h | ⟨b, off, rfl, hsrc⟩
      · subst h; simp at hr
      have p1 := hsrc k c hr
      have hblt : b < w.heap.size := block_lt_of_cell p1
      have p2 : wr.cell? ⟨b, off + k, none⟩ = some (.int .u8 (c.toNat : Int)) := by rw [hb.cell (p := ⟨b, off + k, none⟩) hblt]; exact p1
      obtain ⟨⟨u0, g0⟩, f0⟩ := hroom k (by omega)
      have HP : Hid (BAt (wr.setCell ⟨w.heap.size, k, none⟩ (.int .u8 (c.toNat : Int))) w.heap.size 0 (l.take (k + 1)) ∧ HRoom (wr.setCell ⟨w.heap.size, k, none⟩ (.int .u8 (c.toNat : Int))) w.heap.size n) := ⟨hat.put hr hroom hlt, hroom.set _ _⟩
      have g : (k : Int) < n := by omega
      have HB : Hid (Below w.heap.size w wr) := hb
      clear hat hroom hr hsrc p1 HI hb
      generalize (c.toNat : Int) = cv at *
      go_wp2_with fail
      go_roundw
      case rel => exact ⟨k + 1, by omega, by go_num, HP.out.1, HP.out.2, ⟨by simpa using HFR.out.1, fun o => by rw [World.frozen?_setCell]; exact HFR.out.2 o⟩, HB.out.setCell (Nat.le_refl _) _⟩
      case measure => simp [intOf]; omega
    · have HF : Hid (BMine wr w.heap.size l) := by
        have e : l.take k = l := List.take_of_length_le (by have := HN.out; omega)
        rw [e] at hat
        exact ⟨hat, fun o _ => HFR.out.2 o, HFR.out.1⟩
      clear hat hroom
      go_wp2_with fail
      go_ret
      exact ⟨rfl, HF.out, hb⟩
set_option maxHeartbeats 2000000 in
theorem eqByteS_same (w : World) (a1 a2 : Option Addr) (c1 c2 : Nat) (l : List UInt8) (hl : l.length ≤ 1048576) (h1 : BIn w a1 l) (h2 : BIn w a2 l) :
    Calls Tryz.prog 67 #[.slice a1 l.length c1, .slice a2 l.length c2] w fun e w' => e = .returned (.bool true) ∧ Below w.heap.size w w' := by
  have H1 : Hid (BIn w a1 l) := h1
  have H2 : Hid (BIn w a2 l) := h2
  clear h1 h2
  generalize hn : l.length = n at *
  have HN : Hid (l.length = n) := hn
  clear hn
  go_enter Tryz.func67, Tryz.ntmps67
  go_wp2_with fail
  go_loopw [5] (fun i wr => ∃ k : Nat, k ≤ n ∧ i = .int .i64 k ∧ Below w.heap.size w wr) (fun i _ => n - (intOf i).toNat)
  case atStart => exact ⟨0, Nat.zero_le _, rfl, Below.refl _ _⟩
  case round =>
    obtain ⟨k, hk, rfl, hb⟩ := hrel
    by_cases hlt : k < n
    · obtain ⟨r, hr⟩ : ∃ r, l[k]? = some r := ⟨l[k]'(by have := HN.out; omega), List.getElem?_eq_getElem _⟩
      rcases H1.out with h | ⟨b1, o1, rfl, hs1⟩
      · subst h; simp at hr
      rcases H2.out with h | ⟨b2, o2, rfl, hs2⟩
      · subst h; simp at hr
      have p1 := (hs1.keep hb) k r hr
      have p2 := (hs2.keep hb) k r hr
      have x1 := cell_regrown p1
      have x2 := cell_regrown p2
      have g0 : (0 : Int) ≤ k := by omega
      have g : (k : Int) < n := by omega
      clear hr p1 p2 hs1 hs2 H1 H2
      generalize (r.toNat : Int) = cv at *
      go_wp2_with fail
      refine wp_region_quiet_below (by kernel_rfl) (by kernel_rfl) ?_
      repeat (go_big_quiet_step (first | fail))
      refine wpQuiet_nil ?_
      intro w2 hw2
      have hbb : Below w.heap.size w w2 := by
        obtain ⟨⟨d, os⟩, rfl⟩ := hw2
        exact hb.trans ((below_regrown wr d os).mono hb.size)
      clear x1 x2 hw2 hb
      go_wp2_with fail
      go_roundw
      case rel => exact ⟨k + 1, by omega, by go_num, hbb⟩
      case measure => simp [intOf]; omega
    · go_wp2_with fail
      go_ret
      exact ⟨rfl, hb⟩
end Go.Proofs.YtolkgnnjocmkdaaGreatDoor
/-
  Rows of texts: the laws' own helpers over them.
-/
namespace Go.Proofs.YtolkgnnjocmkdaaGreatDoor
open Go.ChangeShapes Go.WideShapes Go.ChangeAt Go.RowKit Go.Sort
def TAt (w : World) (b off : Nat) (l : List ByteArray) : Prop := ∀ (i : Nat) c, l[i]? = some c → w.cell? ⟨b, off + i, none⟩ = some (.string c)
theorem TAt.keep {w w' : World} {b off : Nat} {l : List ByteArray} (h : TAt w b off l) (hb : Below w.heap.size w w') : TAt w' b off l := by
  intro i c hc
  have := h i c hc
  rw [hb.cell (block_lt_of_cell this)]; exact this
def TIn (w : World) (a : Option Addr) (l : List ByteArray) : Prop := l = [] ∨ ∃ b off, a = some ⟨b, off, none⟩ ∧ TAt w b off l
theorem TIn.keep {w w' : World} {a : Option Addr} {l : List ByteArray} (h : TIn w a l) (hb : Below w.heap.size w w') : TIn w' a l := by
  rcases h with h | ⟨b, off, e, h⟩
  · exact .inl h
  · exact .inr ⟨b, off, e, h.keep hb⟩
structure TMine (W : World) (B : Nat) (l : List ByteArray) : Prop where
  at0 : TAt W B 0 l
  free : ∀ o, o < l.length → W.frozen? ⟨B, o, none⟩ = false
  lt : B < W.heap.size
theorem TMine.keep {W W' : World} {B : Nat} {l : List ByteArray} (h : TMine W B l) (hb : Below W.heap.size W W') : TMine W' B l :=
  ⟨h.at0.keep hb, fun o ho => by rw [hb.frozen (p := ⟨B, o, none⟩) h.lt]; exact h.free o ho, Nat.lt_of_lt_of_le h.lt hb.size⟩
theorem TMine.in {W : World} {B : Nat} {l : List ByteArray} (h : TMine W B l) : TIn W (some ⟨B, 0, none⟩) l := .inr ⟨B, 0, rfl, h.at0⟩
/-- How much room is left behind the texts; -1: none. -/
def szTs (left : Int) : List ByteArray → Int
  | [] => left
  | r :: l => if left - (r.size : Int) < 0 then -1 else szTs (left - (r.size : Int)) l
def szTL (left : Int) (l : List ByteArray) : Int := if left - (l.length : Int) < 0 then -1 else szTs (left - (l.length : Int)) l
theorem szTs_le (l : List ByteArray) : ∀ left, szTs left l ≤ left ∨ szTs left l = -1 := by
  induction l with
  | nil => intro left; exact .inl (Int.le_refl _)
  | cons r l ih =>
    intro left
    rw [szTs]
    split
    · exact .inr rfl
    · rcases ih (left - (r.size : Int)) with h | h
      · left; omega
      · exact .inr h
theorem szTL_room {left : Int} {l : List ByteArray} (hl : left ≤ 1048576) (hz : ¬ szTL left l < 0) : l.length ≤ 1048576 ∧ ∀ x ∈ l, x.size ≤ 1048576 := by
  unfold szTL at hz
  by_cases c : left - (l.length : Int) < 0
  · rw [if_pos c] at hz; omega
  · rw [if_neg c] at hz
    refine ⟨by omega, ?_⟩
    have : ∀ (l : List ByteArray) (left : Int), left ≤ 1048576 → ¬ szTs left l < 0 → ∀ x ∈ l, x.size ≤ 1048576 := fun l => by
      induction l with
      | nil => intro _ _ _ x hx; cases hx
      | cons r l ih =>
        intro left h1 h2 x hx
        rw [szTs] at h2
        by_cases c : left - (r.size : Int) < 0
        · rw [if_pos c] at h2; omega
        · rw [if_neg c] at h2
          rcases List.mem_cons.1 hx with rfl | hx
          · omega
          · exact ih _ (by omega) h2 x hx
    exact this l _ (by omega) hz
set_option maxHeartbeats 2000000 in
theorem szStringS_any (w : World) (a : Option Addr) (cap : Nat) (l : List ByteArray) (hl : l.length ≤ maxLen) (hi : TIn w a l) (hz : ∀ x ∈ l, x.size ≤ maxLen) (left : Int) (h0 : 0 ≤ left) (h1 : left ≤ 1048576) :
    Calls Tryz.prog 55 #[.slice a l.length cap, .int .i64 left] w fun e w' => e = .returned (.int .i64 (szTL left l)) ∧ Below w.heap.size w w' := by
  unfold maxLen at hl
  have HI : Hid (TIn w a l) := hi
  have HZ : Hid (∀ x ∈ l, x.size ≤ maxLen) := hz
  clear hi hz
  generalize hn : l.length = n at *
  have HN : Hid (l.length = n) := hn
  by_cases c0 : left - (n : Int) < 0
  · have HE : Hid (szTL left l = -1) := by show _ = _; unfold szTL; rw [hn, if_pos c0]
    clear hn
    go_enter Tryz.func55, Tryz.ntmps55
    go_wp2
    go_ret
    exact ⟨ret_int HE.out.symm, Below.refl _ _⟩
  have HE : Hid (szTL left l = szTs (left - (n : Int)) l) := by show _ = _; unfold szTL; rw [hn, if_neg c0]
  have c0' : 0 ≤ left - (n : Int) := by omega
  clear hn
  go_enter Tryz.func55, Tryz.ntmps55
  go_wp2_with fail
  go_loopw [1, 5] (fun x i wr => ∃ (k : Nat) (c : Int), k ≤ n ∧ i = .int .i64 k ∧ x = .int .i64 c ∧ 0 ≤ c ∧ c ≤ 1048576 ∧ szTL left l = szTs c (l.drop k) ∧ Below w.heap.size w wr) (fun _ i _ => n - (intOf i).toNat)
  case atStart => exact ⟨0, left - (n : Int), Nat.zero_le _, rfl, rfl, c0', by omega, HE.out, Below.refl _ _⟩
  case round =>
    obtain ⟨k, c, hk, rfl, rfl, c2, c3, hs, hb⟩ := hrel
    have HS : Hid (szTL left l = szTs c (l.drop k)) := hs
    clear hs HE
    by_cases hlt : k < n
    · obtain ⟨r, hr⟩ : ∃ r, l[k]? = some r := ⟨l[k]'(by have := HN.out; omega), List.getElem?_eq_getElem _⟩
      rcases HI.out with h | ⟨b, off, rfl, hat⟩
      · subst h; simp at hr
      have p1 := (hat.keep hb) k r hr
      have z1 := HZ.out r (List.mem_of_getElem? hr)
      have HS2 : Hid (szTL left l = if c - (r.size : Int) < 0 then -1 else szTs (c - (r.size : Int)) (l.drop (k + 1))) := by
        show _ = _
        obtain ⟨hk2, hr2⟩ := List.getElem?_eq_some_iff.1 hr
        rw [HS.out, List.drop_eq_getElem_cons hk2, hr2, szTs]
      have g : (k : Int) < n := by omega
      unfold maxLen at z1
      clear HS hr hat HI HZ
      by_cases hd : c - (r.size : Int) < 0
      · have HF : Hid (szTL left l = -1) := by show _ = _; rw [HS2.out, if_pos hd]
        clear HS2
        go_wp2_with fail
        go_ret
        exact ⟨ret_int HF.out.symm, hb⟩
      · have HF : Hid (szTL left l = szTs (c - (r.size : Int)) (l.drop (k + 1))) := by show _ = _; rw [HS2.out, if_neg hd]
        clear HS2
        go_wp2_with fail
        go_roundw
        case rel => exact ⟨k + 1, c - (r.size : Int), by omega, by go_num, rfl, by omega, by omega, HF.out, hb⟩
        case measure => simp [intOf]; omega
    · have HF : Hid (szTL left l = c) := by
        show _ = _
        rw [HS.out, List.drop_of_length_le (by have := HN.out; omega), szTs]
      clear HS
      go_wp2_with fail
      go_ret
      exact ⟨ret_int HF.out.symm, hb⟩
theorem infoTextR : (Tryz.prog.info? 9).map (fun i => (i.zero, i.size, i.bytes)) = some (some (.string ⟨#[]⟩), 1, 16) := by kernel_rfl
theorem TAt.put {w : World} {G : Nat} {l : List ByteArray} {k n : Nat} {c : ByteArray} (h : TAt w G 0 (l.take k)) (hr : l[k]? = some c) (hm : HRoom w G n) (hk : k < n) : TAt (w.setCell ⟨G, k, none⟩ (.string c)) G 0 (l.take (k + 1)) := by
  intro i q hq
  have hi : i < k + 1 := by
    have := (List.getElem?_eq_some_iff.1 hq).1
    simp at this; omega
  rw [List.getElem?_take_of_lt hi] at hq
  simp only [Nat.zero_add]
  by_cases e : i = k
  · subst e
    rw [hr] at hq
    obtain rfl := Option.some.inj hq
    obtain ⟨⟨u0, g0⟩, _⟩ := hm i (by omega)
    exact World.cell?_setCell_same _ _ _ g0
  · have hq2 : (l.take k)[i]? = some q := by rw [List.getElem?_take_of_lt (by omega)]; exact hq
    have a1 := h i q hq2
    simp only [Nat.zero_add] at a1
    rw [World.cell?_setCell_other _ _ _ _ (hoff_ne (by omega))]; exact a1
set_option maxHeartbeats 2000000 in
theorem toStringS_any (w : World) (a : Option Addr) (cap : Nat) (l : List ByteArray) (hl : l.length ≤ 1048576) (hi : TIn w a l) :
    Calls Tryz.prog 62 #[.slice a l.length cap] w fun e w' => e = .returned (.slice (some ⟨w.heap.size, 0, none⟩) l.length l.length) ∧ TMine w' w.heap.size l ∧ Below w.heap.size w w' := by
  have HI : Hid (TIn w a l) := hi
  obtain ⟨i0, hi0, hz0, hz1, hz2⟩ := info_parts infoTextR
  clear hi
  generalize hn : l.length = n at *
  have HN : Hid (l.length = n) := hn
  clear hn
  go_enter Tryz.func62, Tryz.ntmps62
  go_wp2_with (at_make; refine wpList_make_full w rfl _ _ 28 rfl w.heap.size 9 i0 _ 1 Tryz.underlying28 hi0 hz0 hz1 _ _ _ _ n rfl rfl rfl rfl (by rw [hz2]; omega) (by unfold maxLen; omega) (Nat.le_refl _) ?_; intro w1 hown hgrow)
  have HR1 : Hid (HRoom w1 w.heap.size n ∧ (w.heap.size < w1.heap.size ∧ ∀ o, w1.frozen? ⟨w.heap.size, o, none⟩ = false) ∧ Below w.heap.size w w1) := by
    refine ⟨fun j hj => ⟨?_, hown.frozenAt j⟩, ⟨?lt, fun o => hown.frozenAt o⟩, (Below.refl _ _).grown hgrow (Nat.le_refl _) (fun q hq => by cases hq)⟩
    case lt =>
      obtain ⟨_, h | ⟨g, c, cur, e, _, hh, _⟩⟩ := hown
      · cases h.1
      · simp only [Value.slice.injEq, Option.some.injEq] at e
        have e1 := congrArg Addr.block e.1
        simp only at e1
        rw [e1]
        exact (Array.getElem?_eq_some_iff.1 hh).1
    have h1 := hown.cellAt j (by omega)
    have h2 : j < (madeCells (Value.string ⟨#[]⟩).cells (n * 1)).toList.length := by have := hown.1; omega
    exact ⟨_, h1.trans (List.getElem?_eq_getElem h2)⟩
  clear hown hgrow
  go_loopw [4] (fun i wr => ∃ k : Nat, k ≤ n ∧ i = .int .i64 k ∧ TAt wr w.heap.size 0 (l.take k) ∧ HRoom wr w.heap.size n ∧ (w.heap.size < wr.heap.size ∧ ∀ o, wr.frozen? ⟨w.heap.size, o, none⟩ = false) ∧ Below w.heap.size w wr) (fun i _ => n - (intOf i).toNat)
  case atStart => exact ⟨0, Nat.zero_le _, rfl, fun i r hr => by simp at hr, HR1.out.1, HR1.out.2.1, HR1.out.2.2⟩
  case round =>
    obtain ⟨k, hk, rfl, hat, hroom, hfr, hb⟩ := hrel
    have HFR : Hid (w.heap.size < wr.heap.size ∧ ∀ o, wr.frozen? ⟨w.heap.size, o, none⟩ = false) := hfr
    clear hfr HR1
    by_cases hlt : k < n
    · obtain ⟨c, hr⟩ : ∃ r, l[k]? = some r := ⟨l[k]'(by have := HN.out; omega), List.getElem?_eq_getElem _⟩
      rcases HI.out with h | ⟨b, off, rfl, hsrc⟩
      · subst h; simp at hr
      have p1 := hsrc k c hr
      have hblt : b < w.heap.size := block_lt_of_cell p1
      have p2 : wr.cell? ⟨b, off + k, none⟩ = some (.string c) := by rw [hb.cell (p := ⟨b, off + k, none⟩) hblt]; exact p1
      obtain ⟨⟨u0, g0⟩, f0⟩ := hroom k (by omega)
      have HP : Hid (TAt (wr.setCell ⟨w.heap.size, k, none⟩ (.string c)) w.heap.size 0 (l.take (k + 1)) ∧ HRoom (wr.setCell ⟨w.heap.size, k, none⟩ (.string c)) w.heap.size n) := ⟨hat.put hr hroom hlt, hroom.set _ _⟩
      have g : (k : Int) < n := by omega
      have HB : Hid (Below w.heap.size w wr) := hb
      clear hat hroom hr hsrc p1 HI hb
      go_wp2_with fail
      go_roundw
      case rel => exact ⟨k + 1, by omega, by go_num, HP.out.1, HP.out.2, ⟨by simpa using HFR.out.1, fun o => by rw [World.frozen?_setCell]; exact HFR.out.2 o⟩, HB.out.setCell (Nat.le_refl _) _⟩
      case measure => simp [intOf]; omega
    · have HF : Hid (TMine wr w.heap.size l) := by
        have e : l.take k = l := List.take_of_length_le (by have := HN.out; omega)
        rw [e] at hat
        exact ⟨hat, fun o _ => HFR.out.2 o, HFR.out.1⟩
      clear hat hroom
      go_wp2_with fail
      go_ret
      exact ⟨rfl, HF.out, hb⟩
set_option maxHeartbeats 2000000 in
theorem eqStringS_same (w : World) (a1 a2 : Option Addr) (c1 c2 : Nat) (l : List ByteArray) (hl : l.length ≤ 1048576) (h1 : TIn w a1 l) (h2 : TIn w a2 l) :
    Calls Tryz.prog 69 #[.slice a1 l.length c1, .slice a2 l.length c2] w fun e w' => e = .returned (.bool true) ∧ Below w.heap.size w w' := by
  have H1 : Hid (TIn w a1 l) := h1
  have H2 : Hid (TIn w a2 l) := h2
  clear h1 h2
  generalize hn : l.length = n at *
  have HN : Hid (l.length = n) := hn
  clear hn
  go_enter Tryz.func69, Tryz.ntmps69
  go_wp2_with fail
  go_loopw [5] (fun i wr => ∃ k : Nat, k ≤ n ∧ i = .int .i64 k ∧ Below w.heap.size w wr) (fun i _ => n - (intOf i).toNat)
  case atStart => exact ⟨0, Nat.zero_le _, rfl, Below.refl _ _⟩
  case round =>
    obtain ⟨k, hk, rfl, hb⟩ := hrel
    by_cases hlt : k < n
    · obtain ⟨r, hr⟩ : ∃ r, l[k]? = some r := ⟨l[k]'(by have := HN.out; omega), List.getElem?_eq_getElem _⟩
      rcases H1.out with h | ⟨b1, o1, rfl, hs1⟩
      · subst h; simp at hr
      rcases H2.out with h | ⟨b2, o2, rfl, hs2⟩
      · subst h; simp at hr
      have p1 := (hs1.keep hb) k r hr
      have p2 := (hs2.keep hb) k r hr
      have x1 := cell_regrown p1
      have x2 := cell_regrown p2
      have g0 : (0 : Int) ≤ k := by omega
      have g : (k : Int) < n := by omega
      clear hr p1 p2 hs1 hs2 H1 H2
      go_wp2_with fail
      refine wp_region_quiet_below (by kernel_rfl) (by kernel_rfl) ?_
      repeat (go_big_quiet_step (first | fail))
      refine wpQuiet_nil ?_
      intro w2 hw2
      have hbb : Below w.heap.size w w2 := by
        obtain ⟨⟨d, os⟩, rfl⟩ := hw2
        exact hb.trans ((below_regrown wr d os).mono hb.size)
      clear x1 x2 hw2 hb
      go_wp2_with fail
      go_roundw
      case rel => exact ⟨k + 1, by omega, by go_num, hbb⟩
      case measure => simp [intOf]; omega
    · go_wp2_with fail
      go_ret
      exact ⟨rfl, hb⟩
end Go.Proofs.YtolkgnnjocmkdaaGreatDoor
/-
  Entries of a store, as they lie in memory.
-/
namespace Go.Proofs.YtolkgnnjocmkdaaGreatDoor
open Go.ChangeShapes Go.WideShapes Go.ChangeAt Go.RowKit Go.Sort
/-- An entry, plainly. -/
structure Ent where
  key : ByteArray
  st : Int
  hs : List Hdr
  bl : List UInt8
  t : Int
  g : Int
  l : Int
  s : Int
  e : Int
  b1 : Bool
  b2 : Bool
  ts : List ByteArray
  pins : Int
/-- Where its lists lie. -/
structure EntR where
  ha : Option Addr
  hc : Nat
  ba : Option Addr
  bc : Nat
  ta : Option Addr
  tc : Nat
def entW (x : Ent) (r : EntR) : List Value := [.string x.key, .int .i64 x.st, .slice r.ha x.hs.length r.hc, .slice r.ba x.bl.length r.bc, .int .i64 x.t, .int .i64 x.g, .int .i64 x.l, .int .i64 x.s, .int .i64 x.e, .bool x.b1, .bool x.b2, .slice r.ta x.ts.length r.tc, .int .i64 x.pins]
def entV (x : Ent) (r : EntR) : Value := .agg (entW x r).toArray
/-- Its lists, in a world. -/
structure EntIn (w : World) (x : Ent) (r : EntR) : Prop where
  h : HdsIn w r.ha x.hs
  b : BIn w r.ba x.bl
  k : TIn w r.ta x.ts
  hc : x.hs.length ≤ r.hc
  bc : x.bl.length ≤ r.bc
  tc : x.ts.length ≤ r.tc
theorem EntIn.keep {w w' : World} {x : Ent} {r : EntR} (k : EntIn w x r) (hb : Below w.heap.size w w') : EntIn w' x r := ⟨k.h.keep hb, k.b.keep hb, k.k.keep hb, k.hc, k.bc, k.tc⟩
/-- Entries one behind the other: thirteen cells each. -/
def EntsAt (w : World) (b off : Nat) (l : List (Ent × EntR)) : Prop := ∀ (i : Nat) q, l[i]? = some q → (∀ j, j < 13 → w.cell? ⟨b, off + i * 13 + j, none⟩ = (entW q.1 q.2)[j]?) ∧ EntIn w q.1 q.2
theorem EntsAt.keep {w w' : World} {b off : Nat} {l : List (Ent × EntR)} (h : EntsAt w b off l) (hb : Below w.heap.size w w') : EntsAt w' b off l := by
  intro i q hq
  obtain ⟨h1, h2⟩ := h i q hq
  refine ⟨fun j hj => ?_, h2.keep hb⟩
  have c := h1 j hj
  have hlt : b < w.heap.size := by
    have c0 := h1 0 (by omega)
    exact block_lt_of_cell (c0.trans rfl)
  rw [hb.cell (p := ⟨b, off + i * 13 + j, none⟩) hlt]
  exact c
def EntsIn (w : World) (a : Option Addr) (l : List (Ent × EntR)) : Prop := l = [] ∨ ∃ b off, a = some ⟨b, off, none⟩ ∧ EntsAt w b off l
theorem EntsIn.keep {w w' : World} {a : Option Addr} {l : List (Ent × EntR)} (h : EntsIn w a l) (hb : Below w.heap.size w w') : EntsIn w' a l := by
  rcases h with h | ⟨b, off, e, h⟩
  · exact .inl h
  · exact .inr ⟨b, off, e, h.keep hb⟩
/-- Sizes that came in. -/
structure EntSm (x : Ent) : Prop where
  key : x.key.size ≤ maxLen
  hl : x.hs.length ≤ maxLen
  hs : SmallHdrs x.hs
  bl : x.bl.length ≤ maxLen
  tl : x.ts.length ≤ maxLen
  ts : ∀ t ∈ x.ts, t.size ≤ maxLen
end Go.Proofs.YtolkgnnjocmkdaaGreatDoor
/-
  Thirteen cells that may be written.
-/
namespace Go.Proofs.YtolkgnnjocmkdaaGreatDoor
open Go.ChangeShapes Go.WideShapes Go.ChangeAt Go.RowKit
structure E13 (w : World) (b : Nat) (v0 v1 v2 v3 v4 v5 v6 v7 v8 v9 v10 v11 v12 : Value) : Prop where
  c0 : w.cell? ⟨b, 0, none⟩ = some v0
  c1 : w.cell? ⟨b, 1, none⟩ = some v1
  c2 : w.cell? ⟨b, 2, none⟩ = some v2
  c3 : w.cell? ⟨b, 3, none⟩ = some v3
  c4 : w.cell? ⟨b, 4, none⟩ = some v4
  c5 : w.cell? ⟨b, 5, none⟩ = some v5
  c6 : w.cell? ⟨b, 6, none⟩ = some v6
  c7 : w.cell? ⟨b, 7, none⟩ = some v7
  c8 : w.cell? ⟨b, 8, none⟩ = some v8
  c9 : w.cell? ⟨b, 9, none⟩ = some v9
  c10 : w.cell? ⟨b, 10, none⟩ = some v10
  c11 : w.cell? ⟨b, 11, none⟩ = some v11
  c12 : w.cell? ⟨b, 12, none⟩ = some v12
  fr : ∀ o, w.frozen? ⟨b, o, none⟩ = false
  lt : b < w.heap.size
section
variable {w w' : World} {b : Nat} {v0 v1 v2 v3 v4 v5 v6 v7 v8 v9 v10 v11 v12 : Value}
theorem E13.keep (k : E13 w b v0 v1 v2 v3 v4 v5 v6 v7 v8 v9 v10 v11 v12) (hb : Below w.heap.size w w') : E13 w' b v0 v1 v2 v3 v4 v5 v6 v7 v8 v9 v10 v11 v12 :=
  ⟨by rw [hb.cell (p := ⟨b, 0, none⟩) k.lt]; exact k.c0, by rw [hb.cell (p := ⟨b, 1, none⟩) k.lt]; exact k.c1, by rw [hb.cell (p := ⟨b, 2, none⟩) k.lt]; exact k.c2, by rw [hb.cell (p := ⟨b, 3, none⟩) k.lt]; exact k.c3, by rw [hb.cell (p := ⟨b, 4, none⟩) k.lt]; exact k.c4, by rw [hb.cell (p := ⟨b, 5, none⟩) k.lt]; exact k.c5, by rw [hb.cell (p := ⟨b, 6, none⟩) k.lt]; exact k.c6, by rw [hb.cell (p := ⟨b, 7, none⟩) k.lt]; exact k.c7, by rw [hb.cell (p := ⟨b, 8, none⟩) k.lt]; exact k.c8, by rw [hb.cell (p := ⟨b, 9, none⟩) k.lt]; exact k.c9, by rw [hb.cell (p := ⟨b, 10, none⟩) k.lt]; exact k.c10, by rw [hb.cell (p := ⟨b, 11, none⟩) k.lt]; exact k.c11, by rw [hb.cell (p := ⟨b, 12, none⟩) k.lt]; exact k.c12, fun o => by rw [hb.frozen (p := ⟨b, o, none⟩) k.lt]; exact k.fr o, Nat.lt_of_lt_of_le k.lt hb.size⟩
theorem E13.new (w : World) (v0 v1 v2 v3 v4 v5 v6 v7 v8 v9 v10 v11 v12 : Value) (t : TypeId) : E13 (w.alloc (.cells #[v0, v1, v2, v3, v4, v5, v6, v7, v8, v9, v10, v11, v12] t)) w.heap.size v0 v1 v2 v3 v4 v5 v6 v7 v8 v9 v10 v11 v12 := ⟨by simp, by simp, by simp, by simp, by simp, by simp, by simp, by simp, by simp, by simp, by simp, by simp, by simp, fun o => by simp, by simp⟩
theorem E13.off (k : E13 w b v0 v1 v2 v3 v4 v5 v6 v7 v8 v9 v10 v11 v12) {B i : Nat} {x : Value} (h : B ≠ b) : E13 (w.setCell ⟨B, i, none⟩ x) b v0 v1 v2 v3 v4 v5 v6 v7 v8 v9 v10 v11 v12 := by
  have ne : ∀ o : Nat, (⟨B, i, none⟩ : Addr) ≠ ⟨b, o, none⟩ := fun o q => h (congrArg Addr.block q)
  exact ⟨by rw [World.cell?_setCell_other _ _ _ _ (ne _)]; exact k.c0, by rw [World.cell?_setCell_other _ _ _ _ (ne _)]; exact k.c1, by rw [World.cell?_setCell_other _ _ _ _ (ne _)]; exact k.c2, by rw [World.cell?_setCell_other _ _ _ _ (ne _)]; exact k.c3, by rw [World.cell?_setCell_other _ _ _ _ (ne _)]; exact k.c4, by rw [World.cell?_setCell_other _ _ _ _ (ne _)]; exact k.c5, by rw [World.cell?_setCell_other _ _ _ _ (ne _)]; exact k.c6, by rw [World.cell?_setCell_other _ _ _ _ (ne _)]; exact k.c7, by rw [World.cell?_setCell_other _ _ _ _ (ne _)]; exact k.c8, by rw [World.cell?_setCell_other _ _ _ _ (ne _)]; exact k.c9, by rw [World.cell?_setCell_other _ _ _ _ (ne _)]; exact k.c10, by rw [World.cell?_setCell_other _ _ _ _ (ne _)]; exact k.c11, by rw [World.cell?_setCell_other _ _ _ _ (ne _)]; exact k.c12, fun o => by rw [World.frozen?_setCell]; exact k.fr o, by simpa using k.lt⟩
theorem E13.set0 (k : E13 w b v0 v1 v2 v3 v4 v5 v6 v7 v8 v9 v10 v11 v12) (x : Value) : E13 (w.setCell ⟨b, 0, none⟩ x) b x v1 v2 v3 v4 v5 v6 v7 v8 v9 v10 v11 v12 :=
  ⟨World.cell?_setCell_same _ _ _ k.c0, by rw [World.cell?_setCell_other _ _ _ _ (by intro q; have := congrArg Addr.off q; simp at this)]; exact k.c1, by rw [World.cell?_setCell_other _ _ _ _ (by intro q; have := congrArg Addr.off q; simp at this)]; exact k.c2, by rw [World.cell?_setCell_other _ _ _ _ (by intro q; have := congrArg Addr.off q; simp at this)]; exact k.c3, by rw [World.cell?_setCell_other _ _ _ _ (by intro q; have := congrArg Addr.off q; simp at this)]; exact k.c4, by rw [World.cell?_setCell_other _ _ _ _ (by intro q; have := congrArg Addr.off q; simp at this)]; exact k.c5, by rw [World.cell?_setCell_other _ _ _ _ (by intro q; have := congrArg Addr.off q; simp at this)]; exact k.c6, by rw [World.cell?_setCell_other _ _ _ _ (by intro q; have := congrArg Addr.off q; simp at this)]; exact k.c7, by rw [World.cell?_setCell_other _ _ _ _ (by intro q; have := congrArg Addr.off q; simp at this)]; exact k.c8, by rw [World.cell?_setCell_other _ _ _ _ (by intro q; have := congrArg Addr.off q; simp at this)]; exact k.c9, by rw [World.cell?_setCell_other _ _ _ _ (by intro q; have := congrArg Addr.off q; simp at this)]; exact k.c10, by rw [World.cell?_setCell_other _ _ _ _ (by intro q; have := congrArg Addr.off q; simp at this)]; exact k.c11, by rw [World.cell?_setCell_other _ _ _ _ (by intro q; have := congrArg Addr.off q; simp at this)]; exact k.c12, fun o => by rw [World.frozen?_setCell]; exact k.fr o, by simpa using k.lt⟩
theorem E13.set1 (k : E13 w b v0 v1 v2 v3 v4 v5 v6 v7 v8 v9 v10 v11 v12) (x : Value) : E13 (w.setCell ⟨b, 1, none⟩ x) b v0 x v2 v3 v4 v5 v6 v7 v8 v9 v10 v11 v12 :=
  ⟨by rw [World.cell?_setCell_other _ _ _ _ (by intro q; have := congrArg Addr.off q; simp at this)]; exact k.c0, World.cell?_setCell_same _ _ _ k.c1, by rw [World.cell?_setCell_other _ _ _ _ (by intro q; have := congrArg Addr.off q; simp at this)]; exact k.c2, by rw [World.cell?_setCell_other _ _ _ _ (by intro q; have := congrArg Addr.off q; simp at this)]; exact k.c3, by rw [World.cell?_setCell_other _ _ _ _ (by intro q; have := congrArg Addr.off q; simp at this)]; exact k.c4, by rw [World.cell?_setCell_other _ _ _ _ (by intro q; have := congrArg Addr.off q; simp at this)]; exact k.c5, by rw [World.cell?_setCell_other _ _ _ _ (by intro q; have := congrArg Addr.off q; simp at this)]; exact k.c6, by rw [World.cell?_setCell_other _ _ _ _ (by intro q; have := congrArg Addr.off q; simp at this)]; exact k.c7, by rw [World.cell?_setCell_other _ _ _ _ (by intro q; have := congrArg Addr.off q; simp at this)]; exact k.c8, by rw [World.cell?_setCell_other _ _ _ _ (by intro q; have := congrArg Addr.off q; simp at this)]; exact k.c9, by rw [World.cell?_setCell_other _ _ _ _ (by intro q; have := congrArg Addr.off q; simp at this)]; exact k.c10, by rw [World.cell?_setCell_other _ _ _ _ (by intro q; have := congrArg Addr.off q; simp at this)]; exact k.c11, by rw [World.cell?_setCell_other _ _ _ _ (by intro q; have := congrArg Addr.off q; simp at this)]; exact k.c12, fun o => by rw [World.frozen?_setCell]; exact k.fr o, by simpa using k.lt⟩
theorem E13.set2 (k : E13 w b v0 v1 v2 v3 v4 v5 v6 v7 v8 v9 v10 v11 v12) (x : Value) : E13 (w.setCell ⟨b, 2, none⟩ x) b v0 v1 x v3 v4 v5 v6 v7 v8 v9 v10 v11 v12 :=
  ⟨by rw [World.cell?_setCell_other _ _ _ _ (by intro q; have := congrArg Addr.off q; simp at this)]; exact k.c0, by rw [World.cell?_setCell_other _ _ _ _ (by intro q; have := congrArg Addr.off q; simp at this)]; exact k.c1, World.cell?_setCell_same _ _ _ k.c2, by rw [World.cell?_setCell_other _ _ _ _ (by intro q; have := congrArg Addr.off q; simp at this)]; exact k.c3, by rw [World.cell?_setCell_other _ _ _ _ (by intro q; have := congrArg Addr.off q; simp at this)]; exact k.c4, by rw [World.cell?_setCell_other _ _ _ _ (by intro q; have := congrArg Addr.off q; simp at this)]; exact k.c5, by rw [World.cell?_setCell_other _ _ _ _ (by intro q; have := congrArg Addr.off q; simp at this)]; exact k.c6, by rw [World.cell?_setCell_other _ _ _ _ (by intro q; have := congrArg Addr.off q; simp at this)]; exact k.c7, by rw [World.cell?_setCell_other _ _ _ _ (by intro q; have := congrArg Addr.off q; simp at this)]; exact k.c8, by rw [World.cell?_setCell_other _ _ _ _ (by intro q; have := congrArg Addr.off q; simp at this)]; exact k.c9, by rw [World.cell?_setCell_other _ _ _ _ (by intro q; have := congrArg Addr.off q; simp at this)]; exact k.c10, by rw [World.cell?_setCell_other _ _ _ _ (by intro q; have := congrArg Addr.off q; simp at this)]; exact k.c11, by rw [World.cell?_setCell_other _ _ _ _ (by intro q; have := congrArg Addr.off q; simp at this)]; exact k.c12, fun o => by rw [World.frozen?_setCell]; exact k.fr o, by simpa using k.lt⟩
theorem E13.set3 (k : E13 w b v0 v1 v2 v3 v4 v5 v6 v7 v8 v9 v10 v11 v12) (x : Value) : E13 (w.setCell ⟨b, 3, none⟩ x) b v0 v1 v2 x v4 v5 v6 v7 v8 v9 v10 v11 v12 :=
  ⟨by rw [World.cell?_setCell_other _ _ _ _ (by intro q; have := congrArg Addr.off q; simp at this)]; exact k.c0, by rw [World.cell?_setCell_other _ _ _ _ (by intro q; have := congrArg Addr.off q; simp at this)]; exact k.c1, by rw [World.cell?_setCell_other _ _ _ _ (by intro q; have := congrArg Addr.off q; simp at this)]; exact k.c2, World.cell?_setCell_same _ _ _ k.c3, by rw [World.cell?_setCell_other _ _ _ _ (by intro q; have := congrArg Addr.off q; simp at this)]; exact k.c4, by rw [World.cell?_setCell_other _ _ _ _ (by intro q; have := congrArg Addr.off q; simp at this)]; exact k.c5, by rw [World.cell?_setCell_other _ _ _ _ (by intro q; have := congrArg Addr.off q; simp at this)]; exact k.c6, by rw [World.cell?_setCell_other _ _ _ _ (by intro q; have := congrArg Addr.off q; simp at this)]; exact k.c7, by rw [World.cell?_setCell_other _ _ _ _ (by intro q; have := congrArg Addr.off q; simp at this)]; exact k.c8, by rw [World.cell?_setCell_other _ _ _ _ (by intro q; have := congrArg Addr.off q; simp at this)]; exact k.c9, by rw [World.cell?_setCell_other _ _ _ _ (by intro q; have := congrArg Addr.off q; simp at this)]; exact k.c10, by rw [World.cell?_setCell_other _ _ _ _ (by intro q; have := congrArg Addr.off q; simp at this)]; exact k.c11, by rw [World.cell?_setCell_other _ _ _ _ (by intro q; have := congrArg Addr.off q; simp at this)]; exact k.c12, fun o => by rw [World.frozen?_setCell]; exact k.fr o, by simpa using k.lt⟩
theorem E13.set4 (k : E13 w b v0 v1 v2 v3 v4 v5 v6 v7 v8 v9 v10 v11 v12) (x : Value) : E13 (w.setCell ⟨b, 4, none⟩ x) b v0 v1 v2 v3 x v5 v6 v7 v8 v9 v10 v11 v12 :=
  ⟨by rw [World.cell?_setCell_other _ _ _ _ (by intro q; have := congrArg Addr.off q; simp at this)]; exact k.c0, by rw [World.cell?_setCell_other _ _ _ _ (by intro q; have := congrArg Addr.off q; simp at this)]; exact k.c1, by rw [World.cell?_setCell_other _ _ _ _ (by intro q; have := congrArg Addr.off q; simp at this)]; exact k.c2, by rw [World.cell?_setCell_other _ _ _ _ (by intro q; have := congrArg Addr.off q; simp at this)]; exact k.c3, World.cell?_setCell_same _ _ _ k.c4, by rw [World.cell?_setCell_other _ _ _ _ (by intro q; have := congrArg Addr.off q; simp at this)]; exact k.c5, by rw [World.cell?_setCell_other _ _ _ _ (by intro q; have := congrArg Addr.off q; simp at this)]; exact k.c6, by rw [World.cell?_setCell_other _ _ _ _ (by intro q; have := congrArg Addr.off q; simp at this)]; exact k.c7, by rw [World.cell?_setCell_other _ _ _ _ (by intro q; have := congrArg Addr.off q; simp at this)]; exact k.c8, by rw [World.cell?_setCell_other _ _ _ _ (by intro q; have := congrArg Addr.off q; simp at this)]; exact k.c9, by rw [World.cell?_setCell_other _ _ _ _ (by intro q; have := congrArg Addr.off q; simp at this)]; exact k.c10, by rw [World.cell?_setCell_other _ _ _ _ (by intro q; have := congrArg Addr.off q; simp at this)]; exact k.c11, by rw [World.cell?_setCell_other _ _ _ _ (by intro q; have := congrArg Addr.off q; simp at this)]; exact k.c12, fun o => by rw [World.frozen?_setCell]; exact k.fr o, by simpa using k.lt⟩
theorem E13.set5 (k : E13 w b v0 v1 v2 v3 v4 v5 v6 v7 v8 v9 v10 v11 v12) (x : Value) : E13 (w.setCell ⟨b, 5, none⟩ x) b v0 v1 v2 v3 v4 x v6 v7 v8 v9 v10 v11 v12 :=
  ⟨by rw [World.cell?_setCell_other _ _ _ _ (by intro q; have := congrArg Addr.off q; simp at this)]; exact k.c0, by rw [World.cell?_setCell_other _ _ _ _ (by intro q; have := congrArg Addr.off q; simp at this)]; exact k.c1, by rw [World.cell?_setCell_other _ _ _ _ (by intro q; have := congrArg Addr.off q; simp at this)]; exact k.c2, by rw [World.cell?_setCell_other _ _ _ _ (by intro q; have := congrArg Addr.off q; simp at this)]; exact k.c3, by rw [World.cell?_setCell_other _ _ _ _ (by intro q; have := congrArg Addr.off q; simp at this)]; exact k.c4, World.cell?_setCell_same _ _ _ k.c5, by rw [World.cell?_setCell_other _ _ _ _ (by intro q; have := congrArg Addr.off q; simp at this)]; exact k.c6, by rw [World.cell?_setCell_other _ _ _ _ (by intro q; have := congrArg Addr.off q; simp at this)]; exact k.c7, by rw [World.cell?_setCell_other _ _ _ _ (by intro q; have := congrArg Addr.off q; simp at this)]; exact k.c8, by rw [World.cell?_setCell_other _ _ _ _ (by intro q; have := congrArg Addr.off q; simp at this)]; exact k.c9, by rw [World.cell?_setCell_other _ _ _ _ (by intro q; have := congrArg Addr.off q; simp at this)]; exact k.c10, by rw [World.cell?_setCell_other _ _ _ _ (by intro q; have := congrArg Addr.off q; simp at this)]; exact k.c11, by rw [World.cell?_setCell_other _ _ _ _ (by intro q; have := congrArg Addr.off q; simp at this)]; exact k.c12, fun o => by rw [World.frozen?_setCell]; exact k.fr o, by simpa using k.lt⟩
theorem E13.set6 (k : E13 w b v0 v1 v2 v3 v4 v5 v6 v7 v8 v9 v10 v11 v12) (x : Value) : E13 (w.setCell ⟨b, 6, none⟩ x) b v0 v1 v2 v3 v4 v5 x v7 v8 v9 v10 v11 v12 :=
  ⟨by rw [World.cell?_setCell_other _ _ _ _ (by intro q; have := congrArg Addr.off q; simp at this)]; exact k.c0, by rw [World.cell?_setCell_other _ _ _ _ (by intro q; have := congrArg Addr.off q; simp at this)]; exact k.c1, by rw [World.cell?_setCell_other _ _ _ _ (by intro q; have := congrArg Addr.off q; simp at this)]; exact k.c2, by rw [World.cell?_setCell_other _ _ _ _ (by intro q; have := congrArg Addr.off q; simp at this)]; exact k.c3, by rw [World.cell?_setCell_other _ _ _ _ (by intro q; have := congrArg Addr.off q; simp at this)]; exact k.c4, by rw [World.cell?_setCell_other _ _ _ _ (by intro q; have := congrArg Addr.off q; simp at this)]; exact k.c5, World.cell?_setCell_same _ _ _ k.c6, by rw [World.cell?_setCell_other _ _ _ _ (by intro q; have := congrArg Addr.off q; simp at this)]; exact k.c7, by rw [World.cell?_setCell_other _ _ _ _ (by intro q; have := congrArg Addr.off q; simp at this)]; exact k.c8, by rw [World.cell?_setCell_other _ _ _ _ (by intro q; have := congrArg Addr.off q; simp at this)]; exact k.c9, by rw [World.cell?_setCell_other _ _ _ _ (by intro q; have := congrArg Addr.off q; simp at this)]; exact k.c10, by rw [World.cell?_setCell_other _ _ _ _ (by intro q; have := congrArg Addr.off q; simp at this)]; exact k.c11, by rw [World.cell?_setCell_other _ _ _ _ (by intro q; have := congrArg Addr.off q; simp at this)]; exact k.c12, fun o => by rw [World.frozen?_setCell]; exact k.fr o, by simpa using k.lt⟩
theorem E13.set7 (k : E13 w b v0 v1 v2 v3 v4 v5 v6 v7 v8 v9 v10 v11 v12) (x : Value) : E13 (w.setCell ⟨b, 7, none⟩ x) b v0 v1 v2 v3 v4 v5 v6 x v8 v9 v10 v11 v12 :=
  ⟨by rw [World.cell?_setCell_other _ _ _ _ (by intro q; have := congrArg Addr.off q; simp at this)]; exact k.c0, by rw [World.cell?_setCell_other _ _ _ _ (by intro q; have := congrArg Addr.off q; simp at this)]; exact k.c1, by rw [World.cell?_setCell_other _ _ _ _ (by intro q; have := congrArg Addr.off q; simp at this)]; exact k.c2, by rw [World.cell?_setCell_other _ _ _ _ (by intro q; have := congrArg Addr.off q; simp at this)]; exact k.c3, by rw [World.cell?_setCell_other _ _ _ _ (by intro q; have := congrArg Addr.off q; simp at this)]; exact k.c4, by rw [World.cell?_setCell_other _ _ _ _ (by intro q; have := congrArg Addr.off q; simp at this)]; exact k.c5, by rw [World.cell?_setCell_other _ _ _ _ (by intro q; have := congrArg Addr.off q; simp at this)]; exact k.c6, World.cell?_setCell_same _ _ _ k.c7, by rw [World.cell?_setCell_other _ _ _ _ (by intro q; have := congrArg Addr.off q; simp at this)]; exact k.c8, by rw [World.cell?_setCell_other _ _ _ _ (by intro q; have := congrArg Addr.off q; simp at this)]; exact k.c9, by rw [World.cell?_setCell_other _ _ _ _ (by intro q; have := congrArg Addr.off q; simp at this)]; exact k.c10, by rw [World.cell?_setCell_other _ _ _ _ (by intro q; have := congrArg Addr.off q; simp at this)]; exact k.c11, by rw [World.cell?_setCell_other _ _ _ _ (by intro q; have := congrArg Addr.off q; simp at this)]; exact k.c12, fun o => by rw [World.frozen?_setCell]; exact k.fr o, by simpa using k.lt⟩
theorem E13.set8 (k : E13 w b v0 v1 v2 v3 v4 v5 v6 v7 v8 v9 v10 v11 v12) (x : Value) : E13 (w.setCell ⟨b, 8, none⟩ x) b v0 v1 v2 v3 v4 v5 v6 v7 x v9 v10 v11 v12 :=
  ⟨by rw [World.cell?_setCell_other _ _ _ _ (by intro q; have := congrArg Addr.off q; simp at this)]; exact k.c0, by rw [World.cell?_setCell_other _ _ _ _ (by intro q; have := congrArg Addr.off q; simp at this)]; exact k.c1, by rw [World.cell?_setCell_other _ _ _ _ (by intro q; have := congrArg Addr.off q; simp at this)]; exact k.c2, by rw [World.cell?_setCell_other _ _ _ _ (by intro q; have := congrArg Addr.off q; simp at this)]; exact k.c3, by rw [World.cell?_setCell_other _ _ _ _ (by intro q; have := congrArg Addr.off q; simp at this)]; exact k.c4, by rw [World.cell?_setCell_other _ _ _ _ (by intro q; have := congrArg Addr.off q; simp at this)]; exact k.c5, by rw [World.cell?_setCell_other _ _ _ _ (by intro q; have := congrArg Addr.off q; simp at this)]; exact k.c6, by rw [World.cell?_setCell_other _ _ _ _ (by intro q; have := congrArg Addr.off q; simp at this)]; exact k.c7, World.cell?_setCell_same _ _ _ k.c8, by rw [World.cell?_setCell_other _ _ _ _ (by intro q; have := congrArg Addr.off q; simp at this)]; exact k.c9, by rw [World.cell?_setCell_other _ _ _ _ (by intro q; have := congrArg Addr.off q; simp at this)]; exact k.c10, by rw [World.cell?_setCell_other _ _ _ _ (by intro q; have := congrArg Addr.off q; simp at this)]; exact k.c11, by rw [World.cell?_setCell_other _ _ _ _ (by intro q; have := congrArg Addr.off q; simp at this)]; exact k.c12, fun o => by rw [World.frozen?_setCell]; exact k.fr o, by simpa using k.lt⟩
theorem E13.set9 (k : E13 w b v0 v1 v2 v3 v4 v5 v6 v7 v8 v9 v10 v11 v12) (x : Value) : E13 (w.setCell ⟨b, 9, none⟩ x) b v0 v1 v2 v3 v4 v5 v6 v7 v8 x v10 v11 v12 :=
  ⟨by rw [World.cell?_setCell_other _ _ _ _ (by intro q; have := congrArg Addr.off q; simp at this)]; exact k.c0, by rw [World.cell?_setCell_other _ _ _ _ (by intro q; have := congrArg Addr.off q; simp at this)]; exact k.c1, by rw [World.cell?_setCell_other _ _ _ _ (by intro q; have := congrArg Addr.off q; simp at this)]; exact k.c2, by rw [World.cell?_setCell_other _ _ _ _ (by intro q; have := congrArg Addr.off q; simp at this)]; exact k.c3, by rw [World.cell?_setCell_other _ _ _ _ (by intro q; have := congrArg Addr.off q; simp at this)]; exact k.c4, by rw [World.cell?_setCell_other _ _ _ _ (by intro q; have := congrArg Addr.off q; simp at this)]; exact k.c5, by rw [World.cell?_setCell_other _ _ _ _ (by intro q; have := congrArg Addr.off q; simp at this)]; exact k.c6, by rw [World.cell?_setCell_other _ _ _ _ (by intro q; have := congrArg Addr.off q; simp at this)]; exact k.c7, by rw [World.cell?_setCell_other _ _ _ _ (by intro q; have := congrArg Addr.off q; simp at this)]; exact k.c8, World.cell?_setCell_same _ _ _ k.c9, by rw [World.cell?_setCell_other _ _ _ _ (by intro q; have := congrArg Addr.off q; simp at this)]; exact k.c10, by rw [World.cell?_setCell_other _ _ _ _ (by intro q; have := congrArg Addr.off q; simp at this)]; exact k.c11, by rw [World.cell?_setCell_other _ _ _ _ (by intro q; have := congrArg Addr.off q; simp at this)]; exact k.c12, fun o => by rw [World.frozen?_setCell]; exact k.fr o, by simpa using k.lt⟩
theorem E13.set10 (k : E13 w b v0 v1 v2 v3 v4 v5 v6 v7 v8 v9 v10 v11 v12) (x : Value) : E13 (w.setCell ⟨b, 10, none⟩ x) b v0 v1 v2 v3 v4 v5 v6 v7 v8 v9 x v11 v12 :=
  ⟨by rw [World.cell?_setCell_other _ _ _ _ (by intro q; have := congrArg Addr.off q; simp at this)]; exact k.c0, by rw [World.cell?_setCell_other _ _ _ _ (by intro q; have := congrArg Addr.off q; simp at this)]; exact k.c1, by rw [World.cell?_setCell_other _ _ _ _ (by intro q; have := congrArg Addr.off q; simp at this)]; exact k.c2, by rw [World.cell?_setCell_other _ _ _ _ (by intro q; have := congrArg Addr.off q; simp at this)]; exact k.c3, by rw [World.cell?_setCell_other _ _ _ _ (by intro q; have := congrArg Addr.off q; simp at this)]; exact k.c4, by rw [World.cell?_setCell_other _ _ _ _ (by intro q; have := congrArg Addr.off q; simp at this)]; exact k.c5, by rw [World.cell?_setCell_other _ _ _ _ (by intro q; have := congrArg Addr.off q; simp at this)]; exact k.c6, by rw [World.cell?_setCell_other _ _ _ _ (by intro q; have := congrArg Addr.off q; simp at this)]; exact k.c7, by rw [World.cell?_setCell_other _ _ _ _ (by intro q; have := congrArg Addr.off q; simp at this)]; exact k.c8, by rw [World.cell?_setCell_other _ _ _ _ (by intro q; have := congrArg Addr.off q; simp at this)]; exact k.c9, World.cell?_setCell_same _ _ _ k.c10, by rw [World.cell?_setCell_other _ _ _ _ (by intro q; have := congrArg Addr.off q; simp at this)]; exact k.c11, by rw [World.cell?_setCell_other _ _ _ _ (by intro q; have := congrArg Addr.off q; simp at this)]; exact k.c12, fun o => by rw [World.frozen?_setCell]; exact k.fr o, by simpa using k.lt⟩
theorem E13.set11 (k : E13 w b v0 v1 v2 v3 v4 v5 v6 v7 v8 v9 v10 v11 v12) (x : Value) : E13 (w.setCell ⟨b, 11, none⟩ x) b v0 v1 v2 v3 v4 v5 v6 v7 v8 v9 v10 x v12 :=
  ⟨by rw [World.cell?_setCell_other _ _ _ _ (by intro q; have := congrArg Addr.off q; simp at this)]; exact k.c0, by rw [World.cell?_setCell_other _ _ _ _ (by intro q; have := congrArg Addr.off q; simp at this)]; exact k.c1, by rw [World.cell?_setCell_other _ _ _ _ (by intro q; have := congrArg Addr.off q; simp at this)]; exact k.c2, by rw [World.cell?_setCell_other _ _ _ _ (by intro q; have := congrArg Addr.off q; simp at this)]; exact k.c3, by rw [World.cell?_setCell_other _ _ _ _ (by intro q; have := congrArg Addr.off q; simp at this)]; exact k.c4, by rw [World.cell?_setCell_other _ _ _ _ (by intro q; have := congrArg Addr.off q; simp at this)]; exact k.c5, by rw [World.cell?_setCell_other _ _ _ _ (by intro q; have := congrArg Addr.off q; simp at this)]; exact k.c6, by rw [World.cell?_setCell_other _ _ _ _ (by intro q; have := congrArg Addr.off q; simp at this)]; exact k.c7, by rw [World.cell?_setCell_other _ _ _ _ (by intro q; have := congrArg Addr.off q; simp at this)]; exact k.c8, by rw [World.cell?_setCell_other _ _ _ _ (by intro q; have := congrArg Addr.off q; simp at this)]; exact k.c9, by rw [World.cell?_setCell_other _ _ _ _ (by intro q; have := congrArg Addr.off q; simp at this)]; exact k.c10, World.cell?_setCell_same _ _ _ k.c11, by rw [World.cell?_setCell_other _ _ _ _ (by intro q; have := congrArg Addr.off q; simp at this)]; exact k.c12, fun o => by rw [World.frozen?_setCell]; exact k.fr o, by simpa using k.lt⟩
theorem E13.set12 (k : E13 w b v0 v1 v2 v3 v4 v5 v6 v7 v8 v9 v10 v11 v12) (x : Value) : E13 (w.setCell ⟨b, 12, none⟩ x) b v0 v1 v2 v3 v4 v5 v6 v7 v8 v9 v10 v11 x :=
  ⟨by rw [World.cell?_setCell_other _ _ _ _ (by intro q; have := congrArg Addr.off q; simp at this)]; exact k.c0, by rw [World.cell?_setCell_other _ _ _ _ (by intro q; have := congrArg Addr.off q; simp at this)]; exact k.c1, by rw [World.cell?_setCell_other _ _ _ _ (by intro q; have := congrArg Addr.off q; simp at this)]; exact k.c2, by rw [World.cell?_setCell_other _ _ _ _ (by intro q; have := congrArg Addr.off q; simp at this)]; exact k.c3, by rw [World.cell?_setCell_other _ _ _ _ (by intro q; have := congrArg Addr.off q; simp at this)]; exact k.c4, by rw [World.cell?_setCell_other _ _ _ _ (by intro q; have := congrArg Addr.off q; simp at this)]; exact k.c5, by rw [World.cell?_setCell_other _ _ _ _ (by intro q; have := congrArg Addr.off q; simp at this)]; exact k.c6, by rw [World.cell?_setCell_other _ _ _ _ (by intro q; have := congrArg Addr.off q; simp at this)]; exact k.c7, by rw [World.cell?_setCell_other _ _ _ _ (by intro q; have := congrArg Addr.off q; simp at this)]; exact k.c8, by rw [World.cell?_setCell_other _ _ _ _ (by intro q; have := congrArg Addr.off q; simp at this)]; exact k.c9, by rw [World.cell?_setCell_other _ _ _ _ (by intro q; have := congrArg Addr.off q; simp at this)]; exact k.c10, by rw [World.cell?_setCell_other _ _ _ _ (by intro q; have := congrArg Addr.off q; simp at this)]; exact k.c11, World.cell?_setCell_same _ _ _ k.c12, fun o => by rw [World.frozen?_setCell]; exact k.fr o, by simpa using k.lt⟩
end
theorem E13.all {X : World} {b : Nat} {v0 v1 v2 v3 v4 v5 v6 v7 v8 v9 v10 v11 v12 : Value} (k : E13 X b v0 v1 v2 v3 v4 v5 v6 v7 v8 v9 v10 v11 v12) (x0 x1 x2 x3 x4 x5 x6 x7 x8 x9 x10 x11 x12 : Value) : E13 (((((((((((((X.setCell ⟨b, 0, none⟩ x0).setCell ⟨b, 1, none⟩ x1).setCell ⟨b, 2, none⟩ x2).setCell ⟨b, 3, none⟩ x3).setCell ⟨b, 4, none⟩ x4).setCell ⟨b, 5, none⟩ x5).setCell ⟨b, 6, none⟩ x6).setCell ⟨b, 7, none⟩ x7).setCell ⟨b, 8, none⟩ x8).setCell ⟨b, 9, none⟩ x9).setCell ⟨b, 10, none⟩ x10).setCell ⟨b, 11, none⟩ x11).setCell ⟨b, 12, none⟩ x12) b x0 x1 x2 x3 x4 x5 x6 x7 x8 x9 x10 x11 x12 := (((((((((((((k.set0 _).set1 _).set2 _).set3 _).set4 _).set5 _).set6 _).set7 _).set8 _).set9 _).set10 _).set11 _).set12 _)
end Go.Proofs.YtolkgnnjocmkdaaGreatDoor
/-
  PolicyFault, on both sides; policies that lie in memory.
-/
namespace Go.Proofs.YtolkgnnjocmkdaaGreatDoor
open Go.ChangeShapes Go.WideShapes Go.ChangeAt Go.RowKit
/-- A policy in memory. -/
structure PolAt (w : World) (b : Nat) (b0 b1 b2 : Bool) (l s e g : Int) : Prop where
  c0 : w.cell? ⟨b, 0, none⟩ = some (.bool b0)
  c1 : w.cell? ⟨b, 1, none⟩ = some (.bool b1)
  c2 : w.cell? ⟨b, 2, none⟩ = some (.bool b2)
  c3 : w.cell? ⟨b, 3, none⟩ = some (.int .i64 l)
  c4 : w.cell? ⟨b, 4, none⟩ = some (.int .i64 s)
  c5 : w.cell? ⟨b, 5, none⟩ = some (.int .i64 e)
  c6 : w.cell? ⟨b, 6, none⟩ = some (.int .i64 g)
  fr : ∀ o, w.frozen? ⟨b, o, none⟩ = false
  lt : b < w.heap.size
theorem PolAt.keep {w w' : World} {b : Nat} {b0 b1 b2 : Bool} {l s e g : Int} (k : PolAt w b b0 b1 b2 l s e g) (hb : Below w.heap.size w w') : PolAt w' b b0 b1 b2 l s e g :=
  ⟨by rw [hb.cell (p := ⟨b, 0, none⟩) k.lt]; exact k.c0, by rw [hb.cell (p := ⟨b, 1, none⟩) k.lt]; exact k.c1, by rw [hb.cell (p := ⟨b, 2, none⟩) k.lt]; exact k.c2, by rw [hb.cell (p := ⟨b, 3, none⟩) k.lt]; exact k.c3, by rw [hb.cell (p := ⟨b, 4, none⟩) k.lt]; exact k.c4, by rw [hb.cell (p := ⟨b, 5, none⟩) k.lt]; exact k.c5, by rw [hb.cell (p := ⟨b, 6, none⟩) k.lt]; exact k.c6,
    fun o => by rw [hb.frozen (p := ⟨b, o, none⟩) k.lt]; exact k.fr o, Nat.lt_of_lt_of_le k.lt hb.size⟩
theorem PolAt.new (w : World) (b0 b1 b2 : Bool) (l s e g : Int) (t : TypeId) : PolAt (w.alloc (.cells #[.bool b0, .bool b1, .bool b2, .int .i64 l, .int .i64 s, .int .i64 e, .int .i64 g] t)) w.heap.size b0 b1 b2 l s e g :=
  ⟨by simp, by simp, by simp, by simp, by simp, by simp, by simp, fun o => by simp, by simp⟩
def timeB (x : Int) : Bool := decide (0 ≤ x) && decide (x ≤ 1000000000000000)
theorem timeB_yes {x : Int} (h0 : 0 ≤ x) (h1 : x ≤ 1000000000000000) : timeB x = true := by simp [timeB, h0, h1]
theorem timeB_of {x : Int} (h : timeB x = true) : 0 ≤ x ∧ x ≤ 1000000000000000 := by simpa [timeB] using h
theorem l1Time_all (x : Int) (w : World) : Calls Tryz.prog 175 #[.int .i64 x] w fun r w' => r = .returned (.bool (timeB x)) ∧ w' = w := by
  by_cases c1 : 0 ≤ x
  · by_cases c2 : x ≤ 1000000000000000
    · rw [timeB_yes c1 c2]
      have d2 : decide (x ≤ 1000000000000000) = true := by simp; omega
      go_enter Tryz.func175, Tryz.ntmps175
      go_wp2
      go_ret
      exact ⟨rfl, rfl⟩
    · have e : timeB x = false := by simp [timeB]; omega
      rw [e]
      have d2 : decide (x ≤ 1000000000000000) = false := by simp; omega
      go_enter Tryz.func175, Tryz.ntmps175
      go_wp2
      go_ret
      exact ⟨rfl, rfl⟩
  · have e : timeB x = false := by simp [timeB]; omega
    rw [e]
    go_enter Tryz.func175, Tryz.ntmps175
    go_wp2
    go_ret
    exact ⟨rfl, rfl⟩
theorem isTime_all (x : Int) (w : World) : Calls Tryz.prog 154 #[.int .i64 x] w fun r w' => r = .returned (.bool (timeB x)) ∧ w' = w := by
  by_cases c1 : 0 ≤ x
  · by_cases c2 : x ≤ 1000000000000000
    · rw [timeB_yes c1 c2]
      have d2 : decide (x ≤ 1000000000000000) = true := by simp; omega
      go_enter Tryz.func154, Tryz.ntmps154
      go_wp2
      go_ret
      exact ⟨rfl, rfl⟩
    · have e : timeB x = false := by simp [timeB]; omega
      rw [e]
      have d2 : decide (x ≤ 1000000000000000) = false := by simp; omega
      go_enter Tryz.func154, Tryz.ntmps154
      go_wp2
      go_ret
      exact ⟨rfl, rfl⟩
  · have e : timeB x = false := by simp [timeB]; omega
    rw [e]
    go_enter Tryz.func154, Tryz.ntmps154
    go_wp2
    go_ret
    exact ⟨rfl, rfl⟩
def polB (l s e g : Int) : Bool := (timeB l || decide (l = -1)) && timeB s && timeB e && timeB g
def polC (l s e g : Int) : Int := if polB l s e g = true then 0 else 3
theorem polC_ok {l s e g : Int} (h : polB l s e g = true) : polC l s e g = 0 := by rw [polC, if_pos h]
theorem polC_bad {l s e g : Int} (h : polB l s e g = false) : polC l s e g = 3 := by rw [polC, if_neg (by rw [h]; decide)]
set_option maxHeartbeats 4000000 in
theorem specPol_any (b0 b1 b2 : Bool) (l s e g : Int) (w : World) :
    Calls Tryz.prog 220 #[.agg #[.bool b0, .bool b1, .bool b2, .int .i64 l, .int .i64 s, .int .i64 e, .int .i64 g]] w fun r w' => r = .returned (.int .i64 (polC l s e g)) ∧ Below w.heap.size w w' := by
  have HT : Hid (∀ x w, Calls Tryz.prog 175 #[.int .i64 x] w fun r w' => r = .returned (.bool (timeB x)) ∧ w' = w) := l1Time_all
  have HB : Hid (Below w.heap.size w (w.alloc (.cells #[.bool b0, .bool b1, .bool b2, .int .i64 l, .int .i64 s, .int .i64 e, .int .i64 g] 179))) := (Below.refl _ _).alloc (Nat.le_refl _) _
  cases hl : timeB l
  · by_cases hm : l = -1
    · have hn : (l != -1) = false := by simp [hm]
      have HM : Hid (l = -1) := hm
      clear hm
      cases hs : timeB s
      · rw [polC_bad (by simp [polB, hs])]
        go_enter Tryz.func220, Tryz.ntmps220
        go_wp2_with fail
        refine (HT.out l _).mono ?_
        rintro r w1 ⟨rfl, rfl⟩
        rw [hl]
        go_wp2_with fail
        refine (HT.out s _).mono ?_
        rintro r w1 ⟨rfl, rfl⟩
        rw [hs]
        go_wp2_with fail
        go_ret
        exact ⟨rfl, HB.out⟩
      cases he : timeB e
      · rw [polC_bad (by simp [polB, he])]
        go_enter Tryz.func220, Tryz.ntmps220
        go_wp2_with fail
        refine (HT.out l _).mono ?_
        rintro r w1 ⟨rfl, rfl⟩
        rw [hl]
        go_wp2_with fail
        refine (HT.out s _).mono ?_
        rintro r w1 ⟨rfl, rfl⟩
        rw [hs]
        go_wp2_with fail
        refine (HT.out e _).mono ?_
        rintro r w1 ⟨rfl, rfl⟩
        rw [he]
        go_wp2_with fail
        go_ret
        exact ⟨rfl, HB.out⟩
      cases hg : timeB g
      · rw [polC_bad (by simp [polB, hg])]
        go_enter Tryz.func220, Tryz.ntmps220
        go_wp2_with fail
        refine (HT.out l _).mono ?_
        rintro r w1 ⟨rfl, rfl⟩
        rw [hl]
        go_wp2_with fail
        refine (HT.out s _).mono ?_
        rintro r w1 ⟨rfl, rfl⟩
        rw [hs]
        go_wp2_with fail
        refine (HT.out e _).mono ?_
        rintro r w1 ⟨rfl, rfl⟩
        rw [he]
        go_wp2_with fail
        refine (HT.out g _).mono ?_
        rintro r w1 ⟨rfl, rfl⟩
        rw [hg]
        go_wp2_with fail
        go_ret
        exact ⟨rfl, HB.out⟩
      rw [polC_ok (by simp [polB, HM.out, hs, he, hg])]
      go_enter Tryz.func220, Tryz.ntmps220
      go_wp2_with fail
      refine (HT.out l _).mono ?_
      rintro r w1 ⟨rfl, rfl⟩
      rw [hl]
      go_wp2_with fail
      refine (HT.out s _).mono ?_
      rintro r w1 ⟨rfl, rfl⟩
      rw [hs]
      go_wp2_with fail
      refine (HT.out e _).mono ?_
      rintro r w1 ⟨rfl, rfl⟩
      rw [he]
      go_wp2_with fail
      refine (HT.out g _).mono ?_
      rintro r w1 ⟨rfl, rfl⟩
      rw [hg]
      go_wp2_with fail
      go_ret
      exact ⟨rfl, HB.out⟩
    · have hn : (l != -1) = true := by simpa using hm
      rw [polC_bad (by simp [polB, hl, hm])]
      go_enter Tryz.func220, Tryz.ntmps220
      go_wp2_with fail
      refine (HT.out l _).mono ?_
      rintro r w1 ⟨rfl, rfl⟩
      rw [hl]
      go_wp2_with fail
      go_ret
      exact ⟨rfl, HB.out⟩
  · skip
    cases hs : timeB s
    · rw [polC_bad (by simp [polB, hs])]
      go_enter Tryz.func220, Tryz.ntmps220
      go_wp2_with fail
      refine (HT.out l _).mono ?_
      rintro r w1 ⟨rfl, rfl⟩
      rw [hl]
      go_wp2_with fail
      refine (HT.out s _).mono ?_
      rintro r w1 ⟨rfl, rfl⟩
      rw [hs]
      go_wp2_with fail
      go_ret
      exact ⟨rfl, HB.out⟩
    cases he : timeB e
    · rw [polC_bad (by simp [polB, he])]
      go_enter Tryz.func220, Tryz.ntmps220
      go_wp2_with fail
      refine (HT.out l _).mono ?_
      rintro r w1 ⟨rfl, rfl⟩
      rw [hl]
      go_wp2_with fail
      refine (HT.out s _).mono ?_
      rintro r w1 ⟨rfl, rfl⟩
      rw [hs]
      go_wp2_with fail
      refine (HT.out e _).mono ?_
      rintro r w1 ⟨rfl, rfl⟩
      rw [he]
      go_wp2_with fail
      go_ret
      exact ⟨rfl, HB.out⟩
    cases hg : timeB g
    · rw [polC_bad (by simp [polB, hg])]
      go_enter Tryz.func220, Tryz.ntmps220
      go_wp2_with fail
      refine (HT.out l _).mono ?_
      rintro r w1 ⟨rfl, rfl⟩
      rw [hl]
      go_wp2_with fail
      refine (HT.out s _).mono ?_
      rintro r w1 ⟨rfl, rfl⟩
      rw [hs]
      go_wp2_with fail
      refine (HT.out e _).mono ?_
      rintro r w1 ⟨rfl, rfl⟩
      rw [he]
      go_wp2_with fail
      refine (HT.out g _).mono ?_
      rintro r w1 ⟨rfl, rfl⟩
      rw [hg]
      go_wp2_with fail
      go_ret
      exact ⟨rfl, HB.out⟩
    rw [polC_ok (by simp [polB, hl, hs, he, hg])]
    go_enter Tryz.func220, Tryz.ntmps220
    go_wp2_with fail
    refine (HT.out l _).mono ?_
    rintro r w1 ⟨rfl, rfl⟩
    rw [hl]
    go_wp2_with fail
    refine (HT.out s _).mono ?_
    rintro r w1 ⟨rfl, rfl⟩
    rw [hs]
    go_wp2_with fail
    refine (HT.out e _).mono ?_
    rintro r w1 ⟨rfl, rfl⟩
    rw [he]
    go_wp2_with fail
    refine (HT.out g _).mono ?_
    rintro r w1 ⟨rfl, rfl⟩
    rw [hg]
    go_wp2_with fail
    go_ret
    exact ⟨rfl, HB.out⟩
set_option maxHeartbeats 4000000 in
theorem implPol_any (b0 b1 b2 : Bool) (l s e g : Int) (w : World) :
    Calls Tryz.prog 229 #[.agg #[.bool b0, .bool b1, .bool b2, .int .i64 l, .int .i64 s, .int .i64 e, .int .i64 g]] w fun r w' => r = .returned (.int .i64 (polC l s e g)) ∧ Below w.heap.size w w' := by
  have HT : Hid (∀ x w, Calls Tryz.prog 154 #[.int .i64 x] w fun r w' => r = .returned (.bool (timeB x)) ∧ w' = w) := isTime_all
  have HB : Hid (Below w.heap.size w (w.alloc (.cells #[.bool b0, .bool b1, .bool b2, .int .i64 l, .int .i64 s, .int .i64 e, .int .i64 g] 179))) := (Below.refl _ _).alloc (Nat.le_refl _) _
  by_cases hm : l = -1
  · have hn : (l != -1) = false := by simp [hm]
    have HM : Hid (l = -1) := hm
    clear hm
    cases hs : timeB s
    · rw [polC_bad (by simp [polB, hs])]
      go_enter Tryz.func229, Tryz.ntmps229
      go_wp2_with fail
      refine (HT.out s _).mono ?_
      rintro r w1 ⟨rfl, rfl⟩
      rw [hs]
      go_wp2_with fail
      go_ret
      exact ⟨rfl, HB.out⟩
    cases he : timeB e
    · rw [polC_bad (by simp [polB, he])]
      go_enter Tryz.func229, Tryz.ntmps229
      go_wp2_with fail
      refine (HT.out s _).mono ?_
      rintro r w1 ⟨rfl, rfl⟩
      rw [hs]
      go_wp2_with fail
      refine (HT.out e _).mono ?_
      rintro r w1 ⟨rfl, rfl⟩
      rw [he]
      go_wp2_with fail
      go_ret
      exact ⟨rfl, HB.out⟩
    cases hg : timeB g
    · rw [polC_bad (by simp [polB, hg])]
      go_enter Tryz.func229, Tryz.ntmps229
      go_wp2_with fail
      refine (HT.out s _).mono ?_
      rintro r w1 ⟨rfl, rfl⟩
      rw [hs]
      go_wp2_with fail
      refine (HT.out e _).mono ?_
      rintro r w1 ⟨rfl, rfl⟩
      rw [he]
      go_wp2_with fail
      refine (HT.out g _).mono ?_
      rintro r w1 ⟨rfl, rfl⟩
      rw [hg]
      go_wp2_with fail
      go_ret
      exact ⟨rfl, HB.out⟩
    rw [polC_ok (by simp [polB, HM.out, hs, he, hg])]
    go_enter Tryz.func229, Tryz.ntmps229
    go_wp2_with fail
    refine (HT.out s _).mono ?_
    rintro r w1 ⟨rfl, rfl⟩
    rw [hs]
    go_wp2_with fail
    refine (HT.out e _).mono ?_
    rintro r w1 ⟨rfl, rfl⟩
    rw [he]
    go_wp2_with fail
    refine (HT.out g _).mono ?_
    rintro r w1 ⟨rfl, rfl⟩
    rw [hg]
    go_wp2_with fail
    go_ret
    exact ⟨rfl, HB.out⟩
  have hn : (l != -1) = true := by simpa using hm
  cases hl : timeB l
  · rw [polC_bad (by simp [polB, hl, hm])]
    go_enter Tryz.func229, Tryz.ntmps229
    go_wp2_with fail
    refine (HT.out l _).mono ?_
    rintro r w1 ⟨rfl, rfl⟩
    rw [hl]
    go_wp2_with fail
    go_ret
    exact ⟨rfl, HB.out⟩
  cases hs : timeB s
  · rw [polC_bad (by simp [polB, hs])]
    go_enter Tryz.func229, Tryz.ntmps229
    go_wp2_with fail
    refine (HT.out l _).mono ?_
    rintro r w1 ⟨rfl, rfl⟩
    rw [hl]
    go_wp2_with fail
    refine (HT.out s _).mono ?_
    rintro r w1 ⟨rfl, rfl⟩
    rw [hs]
    go_wp2_with fail
    go_ret
    exact ⟨rfl, HB.out⟩
  cases he : timeB e
  · rw [polC_bad (by simp [polB, he])]
    go_enter Tryz.func229, Tryz.ntmps229
    go_wp2_with fail
    refine (HT.out l _).mono ?_
    rintro r w1 ⟨rfl, rfl⟩
    rw [hl]
    go_wp2_with fail
    refine (HT.out s _).mono ?_
    rintro r w1 ⟨rfl, rfl⟩
    rw [hs]
    go_wp2_with fail
    refine (HT.out e _).mono ?_
    rintro r w1 ⟨rfl, rfl⟩
    rw [he]
    go_wp2_with fail
    go_ret
    exact ⟨rfl, HB.out⟩
  cases hg : timeB g
  · rw [polC_bad (by simp [polB, hg])]
    go_enter Tryz.func229, Tryz.ntmps229
    go_wp2_with fail
    refine (HT.out l _).mono ?_
    rintro r w1 ⟨rfl, rfl⟩
    rw [hl]
    go_wp2_with fail
    refine (HT.out s _).mono ?_
    rintro r w1 ⟨rfl, rfl⟩
    rw [hs]
    go_wp2_with fail
    refine (HT.out e _).mono ?_
    rintro r w1 ⟨rfl, rfl⟩
    rw [he]
    go_wp2_with fail
    refine (HT.out g _).mono ?_
    rintro r w1 ⟨rfl, rfl⟩
    rw [hg]
    go_wp2_with fail
    go_ret
    exact ⟨rfl, HB.out⟩
  rw [polC_ok (by simp [polB, hl, hs, he, hg])]
  go_enter Tryz.func229, Tryz.ntmps229
  go_wp2_with fail
  refine (HT.out l _).mono ?_
  rintro r w1 ⟨rfl, rfl⟩
  rw [hl]
  go_wp2_with fail
  refine (HT.out s _).mono ?_
  rintro r w1 ⟨rfl, rfl⟩
  rw [hs]
  go_wp2_with fail
  refine (HT.out e _).mono ?_
  rintro r w1 ⟨rfl, rfl⟩
  rw [he]
  go_wp2_with fail
  refine (HT.out g _).mono ?_
  rintro r w1 ⟨rfl, rfl⟩
  rw [hg]
  go_wp2_with fail
  go_ret
  exact ⟨rfl, HB.out⟩
end Go.Proofs.YtolkgnnjocmkdaaGreatDoor
/-
  StoreLife, on both sides.
-/
namespace Go.Proofs.YtolkgnnjocmkdaaGreatDoor
open Go.ChangeShapes Go.WideShapes Go.ChangeAt Go.RowKit
/-- Two cells that may be written. -/
structure IR (w : World) (b : Nat) (v0 v1 : Value) : Prop where
  c0 : w.cell? ⟨b, 0, none⟩ = some v0
  c1 : w.cell? ⟨b, 1, none⟩ = some v1
  fr : ∀ o, w.frozen? ⟨b, o, none⟩ = false
  lt : b < w.heap.size
theorem IR.keep {w w' : World} {b : Nat} {v0 v1 : Value} (k : IR w b v0 v1) (hb : Below w.heap.size w w') : IR w' b v0 v1 :=
  ⟨by rw [hb.cell (p := ⟨b, 0, none⟩) k.lt]; exact k.c0, by rw [hb.cell (p := ⟨b, 1, none⟩) k.lt]; exact k.c1, fun o => by rw [hb.frozen (p := ⟨b, o, none⟩) k.lt]; exact k.fr o, Nat.lt_of_lt_of_le k.lt hb.size⟩
theorem IR.new (w : World) (v0 v1 : Value) (t : TypeId) : IR (w.alloc (.cells #[v0, v1] t)) w.heap.size v0 v1 :=
  ⟨by rw [World.cell?_alloc_mark]; rfl, by rw [World.cell?_alloc_mark]; rfl, fun o => by have e := heap_alloc_new w (.cells #[v0, v1] t); unfold World.frozen?; rw [e]; simp, by simp⟩
def statB (st : Int) : Bool := decide (st = 200) || decide (st = 404) || decide (st = 410)
/-- Whether an answer may be kept. -/
def keepB (b0 : Bool) (l st : Int) : Bool := !b0 && statB st && !(decide (st = 200) && decide (l = -1))
def lifeX (l ng : Int) : Int := if l = -1 then ng else l
def rangeB (st ng : Int) : Bool := decide (200 ≤ st) && decide (st ≤ 599) && timeB ng
def lifeC (b0 : Bool) (l s e g st ng : Int) : Int := if polB l s e g = true then (if rangeB st ng = true then (if keepB b0 l st = true then 0 else 4) else 3) else 3
def lifeV (b0 : Bool) (l s e g st ng : Int) : Int := if lifeC b0 l s e g st ng = 0 then lifeX l ng else 0
theorem life_pol {b0 : Bool} {l s e g st ng : Int} (h : polB l s e g = false) : lifeC b0 l s e g st ng = 3 ∧ lifeV b0 l s e g st ng = 0 := by
  have c : lifeC b0 l s e g st ng = 3 := by rw [lifeC, if_neg (by rw [h]; decide)]
  exact ⟨c, by rw [lifeV, c, if_neg (by decide)]⟩
theorem life_range {b0 : Bool} {l s e g st ng : Int} (h : polB l s e g = true) (h2 : rangeB st ng = false) : lifeC b0 l s e g st ng = 3 ∧ lifeV b0 l s e g st ng = 0 := by
  have c : lifeC b0 l s e g st ng = 3 := by rw [lifeC, if_pos h, if_neg (by rw [h2]; decide)]
  exact ⟨c, by rw [lifeV, c, if_neg (by decide)]⟩
theorem life_none {b0 : Bool} {l s e g st ng : Int} (h : polB l s e g = true) (h2 : rangeB st ng = true) (h3 : keepB b0 l st = false) : lifeC b0 l s e g st ng = 4 ∧ lifeV b0 l s e g st ng = 0 := by
  have c : lifeC b0 l s e g st ng = 4 := by rw [lifeC, if_pos h, if_pos h2, if_neg (by rw [h3]; decide)]
  exact ⟨c, by rw [lifeV, c, if_neg (by decide)]⟩
theorem life_ok {b0 : Bool} {l s e g st ng : Int} (h : polB l s e g = true) (h2 : rangeB st ng = true) (h3 : keepB b0 l st = true) : lifeC b0 l s e g st ng = 0 ∧ lifeV b0 l s e g st ng = lifeX l ng := by
  have c : lifeC b0 l s e g st ng = 0 := by rw [lifeC, if_pos h, if_pos h2, if_pos h3]
  exact ⟨c, by rw [lifeV, if_pos c]⟩
theorem lifeX_told {l ng : Int} (h : ¬ l = -1) : lifeX l ng = l := by rw [lifeX, if_neg h]
theorem lifeX_not {ng : Int} : lifeX (-1) ng = ng := by rw [lifeX, if_pos rfl]
theorem mayKeep_any (st : Int) (w : World) : Calls Tryz.prog 94 #[.int .i64 st] w fun r w' => r = .returned (.bool (statB st)) ∧ w' = w := by
  by_cases c1 : st = 200
  · subst c1
    have e : statB 200 = true := by decide
    rw [e]
    go_enter Tryz.func94, Tryz.ntmps94
    go_wp2
    go_ret
    exact ⟨rfl, rfl⟩
  by_cases c2 : st = 404
  · subst c2
    have e : statB 404 = true := by decide
    rw [e]
    go_enter Tryz.func94, Tryz.ntmps94
    go_wp2
    go_ret
    exact ⟨rfl, rfl⟩
  by_cases c3 : st = 410
  · subst c3
    have e : statB 410 = true := by decide
    rw [e]
    go_enter Tryz.func94, Tryz.ntmps94
    go_wp2
    go_ret
    exact ⟨rfl, rfl⟩
  have e : statB st = false := by simp [statB, c1, c2, c3]
  rw [e]
  have d1 : (st == 200) = false := by simpa using c1
  have d2 : (st == 404) = false := by simpa using c2
  have d3 : (st == 410) = false := by simpa using c3
  go_enter Tryz.func94, Tryz.ntmps94
  go_wp2
  go_ret
  exact ⟨rfl, rfl⟩
theorem l1In_all (x lo hi : Int) (w : World) : Calls Tryz.prog 110 #[.int .i64 x, .int .i64 lo, .int .i64 hi] w fun r w' => r = .returned (.bool (decide (lo ≤ x) && decide (x ≤ hi))) ∧ w' = w := by
  by_cases c1 : lo ≤ x
  · by_cases c2 : x ≤ hi
    · have e : (decide (lo ≤ x) && decide (x ≤ hi)) = true := by simp [c1, c2]
      rw [e]
      have d2 : decide (x ≤ hi) = true := by simp [c2]
      go_enter Tryz.func110, Tryz.ntmps110
      go_wp2
      go_ret
      exact ⟨rfl, rfl⟩
    · have e : (decide (lo ≤ x) && decide (x ≤ hi)) = false := by simp [c2]
      rw [e]
      have d2 : decide (x ≤ hi) = false := by simp [c2]
      go_enter Tryz.func110, Tryz.ntmps110
      go_wp2
      go_ret
      exact ⟨rfl, rfl⟩
  · have e : (decide (lo ≤ x) && decide (x ≤ hi)) = false := by simp [c1]
    rw [e]
    go_enter Tryz.func110, Tryz.ntmps110
    go_wp2
    go_ret
    exact ⟨rfl, rfl⟩
def lifeT (b0 : Bool) (l st ng : Int) : Value := .tuple #[.int .i64 (if keepB b0 l st = true then lifeX l ng else 0), .bool (keepB b0 l st)]
set_option maxHeartbeats 4000000 in
theorem l6Life_any (w : World) (B : Nat) (b0 b1 b2 : Bool) (l s e g st ng : Int) (hp : PolAt w B b0 b1 b2 l s e g) :
    Calls Tryz.prog 221 #[.pointer (some ⟨B, 0, none⟩), .int .i64 st, .int .i64 ng] w fun r w' => r = .returned (lifeT b0 l st ng) ∧ w' = w := by
  obtain ⟨c0, _, _, c3, _, _, _, _, _⟩ := hp
  cases b0
  · by_cases hl : l = -1
    · subst hl
      by_cases h200 : st = 200
      · subst h200
        have e : lifeT false (-1) 200 ng = .tuple #[.int .i64 0, .bool false] := by have k : keepB false (-1) 200 = false := (by decide); simp [lifeT, k]
        rw [e]
        go_enter Tryz.func221, Tryz.ntmps221
        go_wp2_with fail
        go_ret2
        exact ⟨rfl, rfl⟩
      by_cases h404 : st = 404
      · subst h404
        have e : lifeT false (-1) 404 ng = .tuple #[.int .i64 ng, .bool true] := by have k : keepB false (-1) 404 = true := (by decide); simp [lifeT, k, lifeX_not]
        rw [e]
        go_enter Tryz.func221, Tryz.ntmps221
        go_wp2_with fail
        go_ret2
        exact ⟨rfl, rfl⟩
      by_cases h410 : st = 410
      · subst h410
        have e : lifeT false (-1) 410 ng = .tuple #[.int .i64 ng, .bool true] := by have k : keepB false (-1) 410 = true := (by decide); simp [lifeT, k, lifeX_not]
        rw [e]
        go_enter Tryz.func221, Tryz.ntmps221
        go_wp2_with fail
        go_ret2
        exact ⟨rfl, rfl⟩
      have e : lifeT false (-1) st ng = .tuple #[.int .i64 0, .bool false] := by have k : keepB false (-1) st = false := (by simp [keepB, statB, h200, h404, h410]); simp [lifeT, k]
      rw [e]
      have d1 : (st != 200) = true := by simpa using h200
      have d2 : (st != 404) = true := by simpa using h404
      have d3 : (st != 410) = true := by simpa using h410
      have d4 : (st == 200) = false := by simpa using h200
      go_enter Tryz.func221, Tryz.ntmps221
      go_wp2_with fail
      go_ret2
      exact ⟨rfl, rfl⟩
    · have hl1 : (l != -1) = true := by simpa using hl
      by_cases h200 : st = 200
      · subst h200
        have e : lifeT false l 200 ng = .tuple #[.int .i64 l, .bool true] := by have k : keepB false l 200 = true := (by simp [keepB, statB, hl]); simp [lifeT, k, lifeX_told hl]
        rw [e]
        go_enter Tryz.func221, Tryz.ntmps221
        go_wp2_with fail
        go_ret2
        exact ⟨rfl, rfl⟩
      by_cases h404 : st = 404
      · subst h404
        have e : lifeT false l 404 ng = .tuple #[.int .i64 l, .bool true] := by have k : keepB false l 404 = true := (by simp [keepB, statB, hl]); simp [lifeT, k, lifeX_told hl]
        rw [e]
        go_enter Tryz.func221, Tryz.ntmps221
        go_wp2_with fail
        go_ret2
        exact ⟨rfl, rfl⟩
      by_cases h410 : st = 410
      · subst h410
        have e : lifeT false l 410 ng = .tuple #[.int .i64 l, .bool true] := by have k : keepB false l 410 = true := (by simp [keepB, statB, hl]); simp [lifeT, k, lifeX_told hl]
        rw [e]
        go_enter Tryz.func221, Tryz.ntmps221
        go_wp2_with fail
        go_ret2
        exact ⟨rfl, rfl⟩
      have e : lifeT false l st ng = .tuple #[.int .i64 0, .bool false] := by have k : keepB false l st = false := (by simp [keepB, statB, h200, h404, h410]); simp [lifeT, k]
      rw [e]
      have d1 : (st != 200) = true := by simpa using h200
      have d2 : (st != 404) = true := by simpa using h404
      have d3 : (st != 410) = true := by simpa using h410
      have d4 : (st == 200) = false := by simpa using h200
      go_enter Tryz.func221, Tryz.ntmps221
      go_wp2_with fail
      go_ret2
      exact ⟨rfl, rfl⟩
  · have e : lifeT true l st ng = .tuple #[.int .i64 0, .bool false] := by have k : keepB true l st = false := (by simp [keepB]); simp [lifeT, k]
    rw [e]
    go_enter Tryz.func221, Tryz.ntmps221
    go_wp2_with fail
    go_ret2
    exact ⟨rfl, rfl⟩
set_option maxHeartbeats 8000000 in
theorem specLife_any (b0 b1 b2 : Bool) (l s e g st ng : Int) (w : World) :
    Calls Tryz.prog 179 #[.agg #[.bool b0, .bool b1, .bool b2, .int .i64 l, .int .i64 s, .int .i64 e, .int .i64 g], .int .i64 st, .int .i64 ng] w fun r w' => r = .returned (.agg #[.int .i64 (lifeC b0 l s e g st ng), .int .i64 (lifeV b0 l s e g st ng)]) ∧ Below w.heap.size w w' := by
  have HP : Hid (∀ w, Calls Tryz.prog 220 #[.agg #[.bool b0, .bool b1, .bool b2, .int .i64 l, .int .i64 s, .int .i64 e, .int .i64 g]] w fun r w' => r = .returned (.int .i64 (polC l s e g)) ∧ Below w.heap.size w w') := specPol_any b0 b1 b2 l s e g
  have HT : Hid (∀ x w, Calls Tryz.prog 175 #[.int .i64 x] w fun r w' => r = .returned (.bool (timeB x)) ∧ w' = w) := l1Time_all
  have K0 : Hid (∀ w1, Below (w.heap.size + 2) ((w.alloc (.cells #[.bool b0, .bool b1, .bool b2, .int .i64 l, .int .i64 s, .int .i64 e, .int .i64 g] 179)).alloc (.cells #[.int .i64 0, .int .i64 0] 144)) w1 → Below w.heap.size w w1 ∧ PolAt w1 w.heap.size b0 b1 b2 l s e g ∧ IR w1 (w.heap.size + 1) (.int .i64 0) (.int .i64 0)) := fun w1 hb => by
    have a1 : Below w.heap.size w (w.alloc (.cells #[.bool b0, .bool b1, .bool b2, .int .i64 l, .int .i64 s, .int .i64 e, .int .i64 g] 179)) := (Below.refl _ _).alloc (Nat.le_refl _) _
    have p1 := PolAt.new w b0 b1 b2 l s e g 179
    have i1 := IR.new (w.alloc (.cells #[.bool b0, .bool b1, .bool b2, .int .i64 l, .int .i64 s, .int .i64 e, .int .i64 g] 179)) (.int .i64 0) (.int .i64 0) 144
    have a2 : Below (w.alloc (.cells #[.bool b0, .bool b1, .bool b2, .int .i64 l, .int .i64 s, .int .i64 e, .int .i64 g] 179)).heap.size (w.alloc (.cells #[.bool b0, .bool b1, .bool b2, .int .i64 l, .int .i64 s, .int .i64 e, .int .i64 g] 179)) ((w.alloc (.cells #[.bool b0, .bool b1, .bool b2, .int .i64 l, .int .i64 s, .int .i64 e, .int .i64 g] 179)).alloc (.cells #[.int .i64 0, .int .i64 0] 144)) := (Below.refl _ _).alloc (Nat.le_refl _) _
    have ez : (w.alloc (.cells #[.bool b0, .bool b1, .bool b2, .int .i64 l, .int .i64 s, .int .i64 e, .int .i64 g] 179)).heap.size = w.heap.size + 1 := by simp
    have hb' : Below ((w.alloc (.cells #[.bool b0, .bool b1, .bool b2, .int .i64 l, .int .i64 s, .int .i64 e, .int .i64 g] 179)).alloc (.cells #[.int .i64 0, .int .i64 0] 144)).heap.size ((w.alloc (.cells #[.bool b0, .bool b1, .bool b2, .int .i64 l, .int .i64 s, .int .i64 e, .int .i64 g] 179)).alloc (.cells #[.int .i64 0, .int .i64 0] 144)) w1 := by simpa using hb
    refine ⟨a1.trans ((a2.mono (by simp)).trans (hb.mono (by omega))), (p1.keep a2).keep hb', ?_⟩
    rw [ez] at i1
    exact i1.keep hb'
  cases hp : polB l s e g
  · rw [(life_pol hp).1, (life_pol hp).2]
    rw [polC_bad hp] at HP
    go_enter Tryz.func179, Tryz.ntmps179
    go_wp2_with fail
    refine (HP.out _).mono ?_
    rintro r w1 ⟨rfl, hb1⟩
    have K1 : Hid (Below w.heap.size w w1 ∧ PolAt w1 w.heap.size b0 b1 b2 l s e g ∧ IR w1 (w.heap.size + 1) (.int .i64 0) (.int .i64 0)) := K0.out w1 (by simpa using hb1)
    clear hb1 K0
    obtain ⟨r0, r1, rf, _⟩ := K1.out.2.2
    have rf0 := rf 0
    have rf1 := rf 1
    clear rf
    go_wp2_with fail
    refine bodyPost_ret (v := .agg #[.int .i64 3, .int .i64 0]) ?_ rfl ⟨rfl, (K1.out.1.setCell (by simp) _).setCell (by simp) _⟩
    simp [results, Tryz.results179, go_sem, r0, r1]
  rw [polC_ok hp] at HP
  have HI : Hid (∀ w, Calls Tryz.prog 110 #[.int .i64 st, .int .i64 200, .int .i64 599] w fun r w' => r = .returned (.bool (decide (200 ≤ st) && decide (st ≤ 599))) ∧ w' = w) := l1In_all st 200 599
  cases hr : (decide (200 ≤ st) && decide (st ≤ 599))
  · have hq : rangeB st ng = false := by rw [rangeB, hr]; rfl
    rw [(life_range hp hq).1, (life_range hp hq).2]
    rw [hr] at HI
    go_enter Tryz.func179, Tryz.ntmps179
    go_wp2_with fail
    refine (HP.out _).mono ?_
    rintro r w1 ⟨rfl, hb1⟩
    have K1 : Hid (Below w.heap.size w w1 ∧ PolAt w1 w.heap.size b0 b1 b2 l s e g ∧ IR w1 (w.heap.size + 1) (.int .i64 0) (.int .i64 0)) := K0.out w1 (by simpa using hb1)
    clear hb1 K0
    go_wp2_with fail
    refine (HI.out _).mono ?_
    rintro r w2 ⟨rfl, rfl⟩
    obtain ⟨r0, r1, rf, _⟩ := K1.out.2.2
    have rf0 := rf 0
    have rf1 := rf 1
    clear rf
    go_wp2_with fail
    refine bodyPost_ret (v := .agg #[.int .i64 3, .int .i64 0]) ?_ rfl ⟨rfl, (K1.out.1.setCell (by simp) _).setCell (by simp) _⟩
    simp [results, Tryz.results179, go_sem, r0, r1]
  rw [hr] at HI
  cases ht : timeB ng
  · have hq : rangeB st ng = false := by rw [rangeB, hr, ht]; rfl
    rw [(life_range hp hq).1, (life_range hp hq).2]
    go_enter Tryz.func179, Tryz.ntmps179
    go_wp2_with fail
    refine (HP.out _).mono ?_
    rintro r w1 ⟨rfl, hb1⟩
    have K1 : Hid (Below w.heap.size w w1 ∧ PolAt w1 w.heap.size b0 b1 b2 l s e g ∧ IR w1 (w.heap.size + 1) (.int .i64 0) (.int .i64 0)) := K0.out w1 (by simpa using hb1)
    clear hb1 K0
    go_wp2_with fail
    refine (HI.out _).mono ?_
    rintro r w2 ⟨rfl, rfl⟩
    go_wp2_with fail
    refine (HT.out ng _).mono ?_
    rintro r w2 ⟨rfl, rfl⟩
    rw [ht]
    obtain ⟨r0, r1, rf, _⟩ := K1.out.2.2
    have rf0 := rf 0
    have rf1 := rf 1
    clear rf
    go_wp2_with fail
    refine bodyPost_ret (v := .agg #[.int .i64 3, .int .i64 0]) ?_ rfl ⟨rfl, (K1.out.1.setCell (by simp) _).setCell (by simp) _⟩
    simp [results, Tryz.results179, go_sem, r0, r1]
  have hq : rangeB st ng = true := by rw [rangeB, hr, ht]; rfl
  have HL : Hid (∀ X, PolAt X w.heap.size b0 b1 b2 l s e g → Calls Tryz.prog 221 #[.pointer (some ⟨w.heap.size, 0, none⟩), .int .i64 st, .int .i64 ng] X fun r w' => r = .returned (lifeT b0 l st ng) ∧ w' = X) := fun X hX => l6Life_any X _ b0 b1 b2 l s e g st ng hX
  unfold lifeT at HL
  cases hk : keepB b0 l st
  · rw [(life_none hp hq hk).1, (life_none hp hq hk).2]
    rw [hk, if_neg (by decide)] at HL
    go_enter Tryz.func179, Tryz.ntmps179
    go_wp2_with fail
    refine (HP.out _).mono ?_
    rintro r w1 ⟨rfl, hb1⟩
    have K1 : Hid (Below w.heap.size w w1 ∧ PolAt w1 w.heap.size b0 b1 b2 l s e g ∧ IR w1 (w.heap.size + 1) (.int .i64 0) (.int .i64 0)) := K0.out w1 (by simpa using hb1)
    clear hb1 K0
    go_wp2_with fail
    refine (HI.out _).mono ?_
    rintro r w2 ⟨rfl, rfl⟩
    go_wp2_with fail
    refine (HT.out ng _).mono ?_
    rintro r w2 ⟨rfl, rfl⟩
    rw [ht]
    go_wp2_with fail
    refine (HL.out _ K1.out.2.1).mono ?_
    rintro r w2 ⟨rfl, rfl⟩
    obtain ⟨r0, r1, rf, _⟩ := K1.out.2.2
    have rf0 := rf 0
    have rf1 := rf 1
    clear rf
    go_wp2_with fail
    refine bodyPost_ret (v := .agg #[.int .i64 4, .int .i64 0]) ?_ rfl ⟨rfl, (K1.out.1.setCell (by simp) _).setCell (by simp) _⟩
    simp [results, Tryz.results179, go_sem, r0, r1]
  rw [(life_ok hp hq hk).1, (life_ok hp hq hk).2]
  rw [hk, if_pos rfl] at HL
  generalize lifeX l ng = x at *
  go_enter Tryz.func179, Tryz.ntmps179
  go_wp2_with fail
  refine (HP.out _).mono ?_
  rintro r w1 ⟨rfl, hb1⟩
  have K1 : Hid (Below w.heap.size w w1 ∧ PolAt w1 w.heap.size b0 b1 b2 l s e g ∧ IR w1 (w.heap.size + 1) (.int .i64 0) (.int .i64 0)) := K0.out w1 (by simpa using hb1)
  clear hb1 K0
  go_wp2_with fail
  refine (HI.out _).mono ?_
  rintro r w2 ⟨rfl, rfl⟩
  go_wp2_with fail
  refine (HT.out ng _).mono ?_
  rintro r w2 ⟨rfl, rfl⟩
  rw [ht]
  go_wp2_with fail
  refine (HL.out _ K1.out.2.1).mono ?_
  rintro r w2 ⟨rfl, rfl⟩
  obtain ⟨r0, r1, rf, _⟩ := K1.out.2.2
  have rf0 := rf 0
  have rf1 := rf 1
  clear rf
  go_wp2_with fail
  refine bodyPost_ret (v := .agg #[.int .i64 0, .int .i64 x]) ?_ rfl ⟨rfl, (K1.out.1.setCell (by simp) _).setCell (by simp) _⟩
  simp [results, Tryz.results179, go_sem, r0, r1]
set_option maxHeartbeats 8000000 in
theorem implLife_any (b0 b1 b2 : Bool) (l s e g st ng : Int) (w : World) :
    Calls Tryz.prog 192 #[.agg #[.bool b0, .bool b1, .bool b2, .int .i64 l, .int .i64 s, .int .i64 e, .int .i64 g], .int .i64 st, .int .i64 ng] w fun r w' => r = .returned (.agg #[.int .i64 (lifeC b0 l s e g st ng), .int .i64 (lifeV b0 l s e g st ng)]) ∧ Below w.heap.size w w' := by
  have HP : Hid (∀ w, Calls Tryz.prog 229 #[.agg #[.bool b0, .bool b1, .bool b2, .int .i64 l, .int .i64 s, .int .i64 e, .int .i64 g]] w fun r w' => r = .returned (.int .i64 (polC l s e g)) ∧ Below w.heap.size w w') := implPol_any b0 b1 b2 l s e g
  have HT : Hid (∀ x w, Calls Tryz.prog 154 #[.int .i64 x] w fun r w' => r = .returned (.bool (timeB x)) ∧ w' = w) := isTime_all
  have K0 : Hid (∀ w1, Below (w.heap.size + 2) ((w.alloc (.cells #[.bool b0, .bool b1, .bool b2, .int .i64 l, .int .i64 s, .int .i64 e, .int .i64 g] 179)).alloc (.cells #[.int .i64 0, .int .i64 0] 144)) w1 → Below w.heap.size w w1 ∧ PolAt w1 w.heap.size b0 b1 b2 l s e g ∧ IR w1 (w.heap.size + 1) (.int .i64 0) (.int .i64 0)) := fun w1 hb => by
    have a1 : Below w.heap.size w (w.alloc (.cells #[.bool b0, .bool b1, .bool b2, .int .i64 l, .int .i64 s, .int .i64 e, .int .i64 g] 179)) := (Below.refl _ _).alloc (Nat.le_refl _) _
    have p1 := PolAt.new w b0 b1 b2 l s e g 179
    have i1 := IR.new (w.alloc (.cells #[.bool b0, .bool b1, .bool b2, .int .i64 l, .int .i64 s, .int .i64 e, .int .i64 g] 179)) (.int .i64 0) (.int .i64 0) 144
    have a2 : Below (w.alloc (.cells #[.bool b0, .bool b1, .bool b2, .int .i64 l, .int .i64 s, .int .i64 e, .int .i64 g] 179)).heap.size (w.alloc (.cells #[.bool b0, .bool b1, .bool b2, .int .i64 l, .int .i64 s, .int .i64 e, .int .i64 g] 179)) ((w.alloc (.cells #[.bool b0, .bool b1, .bool b2, .int .i64 l, .int .i64 s, .int .i64 e, .int .i64 g] 179)).alloc (.cells #[.int .i64 0, .int .i64 0] 144)) := (Below.refl _ _).alloc (Nat.le_refl _) _
    have ez : (w.alloc (.cells #[.bool b0, .bool b1, .bool b2, .int .i64 l, .int .i64 s, .int .i64 e, .int .i64 g] 179)).heap.size = w.heap.size + 1 := by simp
    have hb' : Below ((w.alloc (.cells #[.bool b0, .bool b1, .bool b2, .int .i64 l, .int .i64 s, .int .i64 e, .int .i64 g] 179)).alloc (.cells #[.int .i64 0, .int .i64 0] 144)).heap.size ((w.alloc (.cells #[.bool b0, .bool b1, .bool b2, .int .i64 l, .int .i64 s, .int .i64 e, .int .i64 g] 179)).alloc (.cells #[.int .i64 0, .int .i64 0] 144)) w1 := by simpa using hb
    refine ⟨a1.trans ((a2.mono (by simp)).trans (hb.mono (by omega))), (p1.keep a2).keep hb', ?_⟩
    rw [ez] at i1
    exact i1.keep hb'
  cases hp : polB l s e g
  · rw [(life_pol hp).1, (life_pol hp).2]
    rw [polC_bad hp] at HP
    go_enter Tryz.func192, Tryz.ntmps192
    go_wp2_with fail
    refine (HP.out _).mono ?_
    rintro r w1 ⟨rfl, hb1⟩
    have K1 : Hid (Below w.heap.size w w1 ∧ PolAt w1 w.heap.size b0 b1 b2 l s e g ∧ IR w1 (w.heap.size + 1) (.int .i64 0) (.int .i64 0)) := K0.out w1 (by simpa using hb1)
    clear hb1 K0
    obtain ⟨r0, r1, rf, _⟩ := K1.out.2.2
    have rf0 := rf 0
    have rf1 := rf 1
    clear rf
    go_wp2_with fail
    refine bodyPost_ret (v := .agg #[.int .i64 3, .int .i64 0]) ?_ rfl ⟨rfl, (K1.out.1.setCell (by simp) _).setCell (by simp) _⟩
    simp [results, Tryz.results192, go_sem, r0, r1]
  rw [polC_ok hp] at HP
  have HM : Hid (∀ w, Calls Tryz.prog 94 #[.int .i64 st] w fun r w' => r = .returned (.bool (statB st)) ∧ w' = w) := mayKeep_any st
  by_cases h1 : st < 200
  · have hq : rangeB st ng = false := by simp [rangeB]; omega
    rw [(life_range hp hq).1, (life_range hp hq).2]
    go_enter Tryz.func192, Tryz.ntmps192
    go_wp2_with fail
    refine (HP.out _).mono ?_
    rintro r w1 ⟨rfl, hb1⟩
    have K1 : Hid (Below w.heap.size w w1 ∧ PolAt w1 w.heap.size b0 b1 b2 l s e g ∧ IR w1 (w.heap.size + 1) (.int .i64 0) (.int .i64 0)) := K0.out w1 (by simpa using hb1)
    clear hb1 K0
    obtain ⟨r0, r1, rf, _⟩ := K1.out.2.2
    have rf0 := rf 0
    have rf1 := rf 1
    clear rf
    go_wp2_with fail
    refine bodyPost_ret (v := .agg #[.int .i64 3, .int .i64 0]) ?_ rfl ⟨rfl, (K1.out.1.setCell (by simp) _).setCell (by simp) _⟩
    simp [results, Tryz.results192, go_sem, r0, r1]
  by_cases h2 : 599 < st
  · have hq : rangeB st ng = false := by simp [rangeB]; omega
    have d2 : decide (599 < st) = true := by simp [h2]
    rw [(life_range hp hq).1, (life_range hp hq).2]
    go_enter Tryz.func192, Tryz.ntmps192
    go_wp2_with fail
    refine (HP.out _).mono ?_
    rintro r w1 ⟨rfl, hb1⟩
    have K1 : Hid (Below w.heap.size w w1 ∧ PolAt w1 w.heap.size b0 b1 b2 l s e g ∧ IR w1 (w.heap.size + 1) (.int .i64 0) (.int .i64 0)) := K0.out w1 (by simpa using hb1)
    clear hb1 K0
    obtain ⟨r0, r1, rf, _⟩ := K1.out.2.2
    have rf0 := rf 0
    have rf1 := rf 1
    clear rf
    go_wp2_with fail
    refine bodyPost_ret (v := .agg #[.int .i64 3, .int .i64 0]) ?_ rfl ⟨rfl, (K1.out.1.setCell (by simp) _).setCell (by simp) _⟩
    simp [results, Tryz.results192, go_sem, r0, r1]
  have d2 : decide (599 < st) = false := by simp; omega
  cases ht : timeB ng
  · have hq : rangeB st ng = false := by rw [rangeB, ht]; simp
    rw [(life_range hp hq).1, (life_range hp hq).2]
    go_enter Tryz.func192, Tryz.ntmps192
    go_wp2_with fail
    refine (HP.out _).mono ?_
    rintro r w1 ⟨rfl, hb1⟩
    have K1 : Hid (Below w.heap.size w w1 ∧ PolAt w1 w.heap.size b0 b1 b2 l s e g ∧ IR w1 (w.heap.size + 1) (.int .i64 0) (.int .i64 0)) := K0.out w1 (by simpa using hb1)
    clear hb1 K0
    go_wp2_with fail
    refine (HT.out ng _).mono ?_
    rintro r w2 ⟨rfl, rfl⟩
    rw [ht]
    obtain ⟨r0, r1, rf, _⟩ := K1.out.2.2
    have rf0 := rf 0
    have rf1 := rf 1
    clear rf
    go_wp2_with fail
    refine bodyPost_ret (v := .agg #[.int .i64 3, .int .i64 0]) ?_ rfl ⟨rfl, (K1.out.1.setCell (by simp) _).setCell (by simp) _⟩
    simp [results, Tryz.results192, go_sem, r0, r1]
  have hq : rangeB st ng = true := by simp [rangeB, ht]; omega
  rcases Bool.eq_false_or_eq_true b0 with hb | hb
  · have HB0 : Hid (b0 = true) := hb
    clear hb
    have hk : keepB b0 l st = false := by simp [keepB, HB0.out]
    rw [(life_none hp hq hk).1, (life_none hp hq hk).2]
    go_enter Tryz.func192, Tryz.ntmps192
    go_wp2_with fail
    refine (HP.out _).mono ?_
    rintro r w1 ⟨rfl, hb1⟩
    have K1 : Hid (Below w.heap.size w w1 ∧ PolAt w1 w.heap.size b0 b1 b2 l s e g ∧ IR w1 (w.heap.size + 1) (.int .i64 0) (.int .i64 0)) := K0.out w1 (by simpa using hb1)
    clear hb1 K0
    obtain ⟨c0, _, _, c3, _, _, _, _, _⟩ := K1.out.2.1
    rw [HB0.out] at c0
    go_wp2_with fail
    refine (HT.out ng _).mono ?_
    rintro r w2 ⟨rfl, rfl⟩
    rw [ht]
    obtain ⟨r0, r1, rf, _⟩ := K1.out.2.2
    have rf0 := rf 0
    have rf1 := rf 1
    clear rf
    go_wp2_with fail
    refine bodyPost_ret (v := .agg #[.int .i64 4, .int .i64 0]) ?_ rfl ⟨rfl, (K1.out.1.setCell (by simp) _).setCell (by simp) _⟩
    simp [results, Tryz.results192, go_sem, r0, r1]
  have HB0 : Hid (b0 = false) := hb
  clear hb
  cases hs : statB st
  · have hk : keepB b0 l st = false := by simp [keepB, hs]
    rw [(life_none hp hq hk).1, (life_none hp hq hk).2]
    go_enter Tryz.func192, Tryz.ntmps192
    go_wp2_with fail
    refine (HP.out _).mono ?_
    rintro r w1 ⟨rfl, hb1⟩
    have K1 : Hid (Below w.heap.size w w1 ∧ PolAt w1 w.heap.size b0 b1 b2 l s e g ∧ IR w1 (w.heap.size + 1) (.int .i64 0) (.int .i64 0)) := K0.out w1 (by simpa using hb1)
    clear hb1 K0
    obtain ⟨c0, _, _, c3, _, _, _, _, _⟩ := K1.out.2.1
    rw [HB0.out] at c0
    go_wp2_with fail
    refine (HT.out ng _).mono ?_
    rintro r w2 ⟨rfl, rfl⟩
    rw [ht]
    go_wp2_with fail
    refine (HM.out _).mono ?_
    rintro r w2 ⟨rfl, rfl⟩
    rw [hs]
    obtain ⟨r0, r1, rf, _⟩ := K1.out.2.2
    have rf0 := rf 0
    have rf1 := rf 1
    clear rf
    go_wp2_with fail
    refine bodyPost_ret (v := .agg #[.int .i64 4, .int .i64 0]) ?_ rfl ⟨rfl, (K1.out.1.setCell (by simp) _).setCell (by simp) _⟩
    simp [results, Tryz.results192, go_sem, r0, r1]
  by_cases hl : l = -1
  · have HLM : Hid (l = -1) := hl
    clear hl
    by_cases h200 : st = 200
    · have d200 : (st == 200) = true := by simp [h200]
      have hk : keepB b0 l st = false := by simp [keepB, h200, HLM.out]
      clear h200
      rw [(life_none hp hq hk).1, (life_none hp hq hk).2]
      go_enter Tryz.func192, Tryz.ntmps192
      go_wp2_with fail
      refine (HP.out _).mono ?_
      rintro r w1 ⟨rfl, hb1⟩
      have K1 : Hid (Below w.heap.size w w1 ∧ PolAt w1 w.heap.size b0 b1 b2 l s e g ∧ IR w1 (w.heap.size + 1) (.int .i64 0) (.int .i64 0)) := K0.out w1 (by simpa using hb1)
      clear hb1 K0
      obtain ⟨c0, _, _, c3, _, _, _, _, _⟩ := K1.out.2.1
      rw [HB0.out] at c0
      rw [HLM.out] at c3
      go_wp2_with fail
      refine (HT.out ng _).mono ?_
      rintro r w2 ⟨rfl, rfl⟩
      rw [ht]
      go_wp2_with fail
      refine (HM.out _).mono ?_
      rintro r w2 ⟨rfl, rfl⟩
      rw [hs]
      obtain ⟨r0, r1, rf, _⟩ := K1.out.2.2
      have rf0 := rf 0
      have rf1 := rf 1
      clear rf
      go_wp2_with fail
      refine bodyPost_ret (v := .agg #[.int .i64 4, .int .i64 0]) ?_ rfl ⟨rfl, (K1.out.1.setCell (by simp) _).setCell (by simp) _⟩
      simp [results, Tryz.results192, go_sem, r0, r1]
    have d200 : (st == 200) = false := by simpa using h200
    have hk : keepB b0 l st = true := by simp [keepB, hs, h200, HB0.out]
    have hx : lifeX l ng = ng := by rw [HLM.out, lifeX_not]
    rw [(life_ok hp hq hk).1, (life_ok hp hq hk).2, hx]
    go_enter Tryz.func192, Tryz.ntmps192
    go_wp2_with fail
    refine (HP.out _).mono ?_
    rintro r w1 ⟨rfl, hb1⟩
    have K1 : Hid (Below w.heap.size w w1 ∧ PolAt w1 w.heap.size b0 b1 b2 l s e g ∧ IR w1 (w.heap.size + 1) (.int .i64 0) (.int .i64 0)) := K0.out w1 (by simpa using hb1)
    clear hb1 K0
    obtain ⟨c0, _, _, c3, _, _, _, _, _⟩ := K1.out.2.1
    rw [HB0.out] at c0
    rw [HLM.out] at c3
    go_wp2_with fail
    refine (HT.out ng _).mono ?_
    rintro r w2 ⟨rfl, rfl⟩
    rw [ht]
    go_wp2_with fail
    refine (HM.out _).mono ?_
    rintro r w2 ⟨rfl, rfl⟩
    rw [hs]
    obtain ⟨r0, r1, rf, _⟩ := K1.out.2.2
    have rf0 := rf 0
    have rf1 := rf 1
    clear rf
    go_wp2_with fail
    refine bodyPost_ret (v := .agg #[.int .i64 0, .int .i64 ng]) ?_ rfl ⟨rfl, (K1.out.1.setCell (by simp) _).setCell (by simp) _⟩
    simp [results, Tryz.results192, go_sem, r0, r1]
  have dl : (l == -1) = false := by simpa using hl
  have hk : keepB b0 l st = true := by simp [keepB, hs, hl, HB0.out]
  rw [(life_ok hp hq hk).1, (life_ok hp hq hk).2, lifeX_told hl]
  by_cases h200 : st = 200
  · have d200 : (st == 200) = true := by simp [h200]
    clear h200
    go_enter Tryz.func192, Tryz.ntmps192
    go_wp2_with fail
    refine (HP.out _).mono ?_
    rintro r w1 ⟨rfl, hb1⟩
    have K1 : Hid (Below w.heap.size w w1 ∧ PolAt w1 w.heap.size b0 b1 b2 l s e g ∧ IR w1 (w.heap.size + 1) (.int .i64 0) (.int .i64 0)) := K0.out w1 (by simpa using hb1)
    clear hb1 K0
    obtain ⟨c0, _, _, c3, _, _, _, _, _⟩ := K1.out.2.1
    rw [HB0.out] at c0
    go_wp2_with fail
    refine (HT.out ng _).mono ?_
    rintro r w2 ⟨rfl, rfl⟩
    rw [ht]
    go_wp2_with fail
    refine (HM.out _).mono ?_
    rintro r w2 ⟨rfl, rfl⟩
    rw [hs]
    obtain ⟨r0, r1, rf, _⟩ := K1.out.2.2
    have rf0 := rf 0
    have rf1 := rf 1
    clear rf
    go_wp2_with fail
    refine bodyPost_ret (v := .agg #[.int .i64 0, .int .i64 l]) ?_ rfl ⟨rfl, (K1.out.1.setCell (by simp) _).setCell (by simp) _⟩
    simp [results, Tryz.results192, go_sem, r0, r1]
  have d200 : (st == 200) = false := by simpa using h200
  go_enter Tryz.func192, Tryz.ntmps192
  go_wp2_with fail
  refine (HP.out _).mono ?_
  rintro r w1 ⟨rfl, hb1⟩
  have K1 : Hid (Below w.heap.size w w1 ∧ PolAt w1 w.heap.size b0 b1 b2 l s e g ∧ IR w1 (w.heap.size + 1) (.int .i64 0) (.int .i64 0)) := K0.out w1 (by simpa using hb1)
  clear hb1 K0
  obtain ⟨c0, _, _, c3, _, _, _, _, _⟩ := K1.out.2.1
  rw [HB0.out] at c0
  go_wp2_with fail
  refine (HT.out ng _).mono ?_
  rintro r w2 ⟨rfl, rfl⟩
  rw [ht]
  go_wp2_with fail
  refine (HM.out _).mono ?_
  rintro r w2 ⟨rfl, rfl⟩
  rw [hs]
  obtain ⟨r0, r1, rf, _⟩ := K1.out.2.2
  have rf0 := rf 0
  have rf1 := rf 1
  clear rf
  go_wp2_with fail
  refine bodyPost_ret (v := .agg #[.int .i64 0, .int .i64 l]) ?_ rfl ⟨rfl, (K1.out.1.setCell (by simp) _).setCell (by simp) _⟩
  simp [results, Tryz.results192, go_sem, r0, r1]
end Go.Proofs.YtolkgnnjocmkdaaGreatDoor
/-
  What AddTime's model and AddTime itself answer, for any two numbers: one contract a function and a case.
-/
namespace Go.Proofs.YtolkgnnjocmkdaaGreatDoor
open Go.ChangeShapes Go.WideShapes Go.ChangeAt Go.RowKit
set_option maxHeartbeats 400000 in
theorem implAdd_bad (a b : Int) (h : a < 0 ∨ 1000000000000000 < a ∨ b < 0 ∨ 1000000000000000 < b) (w : World) :
    Calls Tryz.prog 155 #[.int .i64 a, .int .i64 b] w fun e w' => e = .returned (.agg #[.int .i64 3, .int .i64 0]) ∧ Below w.heap.size w w' := by
  by_cases c1 : a < 0
  · clear h
    go_enter Tryz.func155, Tryz.ntmps155
    go_wp2
    exact bodyPost_ret (v := .agg #[.int .i64 3, .int .i64 0]) (by simp [results, Tryz.results155, go_sem]) rfl ⟨rfl, (Below.refl _ _).alloc (Nat.le_refl _) _⟩
  · by_cases c2 : 1000000000000000 < a
    · clear h
      have d2 : decide (a ≤ 1000000000000000) = false := by simp; omega
      go_enter Tryz.func155, Tryz.ntmps155
      go_wp2
      exact bodyPost_ret (v := .agg #[.int .i64 3, .int .i64 0]) (by simp [results, Tryz.results155, go_sem]) rfl ⟨rfl, (Below.refl _ _).alloc (Nat.le_refl _) _⟩
    · have d2 : decide (a ≤ 1000000000000000) = true := by simp; omega
      by_cases c3 : b < 0
      · clear h
        go_enter Tryz.func155, Tryz.ntmps155
        go_wp2
        exact bodyPost_ret (v := .agg #[.int .i64 3, .int .i64 0]) (by simp [results, Tryz.results155, go_sem]) rfl ⟨rfl, (Below.refl _ _).alloc (Nat.le_refl _) _⟩
      · have c4 : 1000000000000000 < b := by omega
        have d4 : decide (b ≤ 1000000000000000) = false := by simp; omega
        clear h
        go_enter Tryz.func155, Tryz.ntmps155
        go_wp2
        exact bodyPost_ret (v := .agg #[.int .i64 3, .int .i64 0]) (by simp [results, Tryz.results155, go_sem]) rfl ⟨rfl, (Below.refl _ _).alloc (Nat.le_refl _) _⟩
set_option maxHeartbeats 400000 in
theorem implAdd_over (a b : Int) (a0 : 0 ≤ a) (a1 : a ≤ 1000000000000000) (b0 : 0 ≤ b) (b1 : b ≤ 1000000000000000) (h : 1000000000000000 ≤ a + b) (w : World) :
    Calls Tryz.prog 155 #[.int .i64 a, .int .i64 b] w fun e w' => e = .returned (.agg #[.int .i64 0, .int .i64 1000000000000000]) ∧ Below w.heap.size w w' := by
  have d2 : decide (a ≤ 1000000000000000) = true := by simp; omega
  have d4 : decide (b ≤ 1000000000000000) = true := by simp; omega
  rcases Int.lt_or_eq_of_le h with h1 | h1
  · have h2 : 1000000000000000 - b < a := by omega
    clear h
    go_enter Tryz.func155, Tryz.ntmps155
    go_wp2
    exact bodyPost_ret (v := .agg #[.int .i64 0, .int .i64 1000000000000000]) (by simp [results, Tryz.results155, go_sem]) rfl ⟨rfl, (Below.refl _ _).alloc (Nat.le_refl _) _⟩
  · obtain rfl : a = 1000000000000000 - b := by omega
    clear h h1
    have e1 : (1000000000000000 - b + b) = 1000000000000000 := by omega
    go_enter Tryz.func155, Tryz.ntmps155
    go_wp2
    exact bodyPost_ret (v := .agg #[.int .i64 0, .int .i64 1000000000000000]) (by simp [results, Tryz.results155, go_sem]) rfl ⟨rfl, (Below.refl _ _).alloc (Nat.le_refl _) _⟩
set_option maxHeartbeats 400000 in
theorem implAdd_under (a b : Int) (a0 : 0 ≤ a) (a1 : a ≤ 1000000000000000) (b0 : 0 ≤ b) (b1 : b ≤ 1000000000000000) (h : a + b < 1000000000000000) (w : World) :
    Calls Tryz.prog 155 #[.int .i64 a, .int .i64 b] w fun e w' => e = .returned (.agg #[.int .i64 0, .int .i64 (a + b)]) ∧ Below w.heap.size w w' := by
  have d2 : decide (a ≤ 1000000000000000) = true := by simp; omega
  have d4 : decide (b ≤ 1000000000000000) = true := by simp; omega
  have h2 : ¬ 1000000000000000 - b < a := by omega
  go_enter Tryz.func155, Tryz.ntmps155
  go_wp2
  exact bodyPost_ret (v := .agg #[.int .i64 0, .int .i64 (a + b)]) (by simp [results, Tryz.results155, go_sem]) rfl ⟨rfl, (Below.refl _ _).alloc (Nat.le_refl _) _⟩
end Go.Proofs.YtolkgnnjocmkdaaGreatDoor
/-
  What is kept with an answer: faults, ages and phases, on both sides.
-/
namespace Go.Proofs.YtolkgnnjocmkdaaGreatDoor
open Go.ChangeShapes Go.WideShapes Go.ChangeAt Go.RowKit
/-- What is kept with an answer, in memory. -/
structure MetaAt (w : World) (b : Nat) (t g l s e : Int) (b1 b2 : Bool) : Prop where
  c0 : w.cell? ⟨b, 0, none⟩ = some (.int .i64 t)
  c1 : w.cell? ⟨b, 1, none⟩ = some (.int .i64 g)
  c2 : w.cell? ⟨b, 2, none⟩ = some (.int .i64 l)
  c3 : w.cell? ⟨b, 3, none⟩ = some (.int .i64 s)
  c4 : w.cell? ⟨b, 4, none⟩ = some (.int .i64 e)
  c5 : w.cell? ⟨b, 5, none⟩ = some (.bool b1)
  c6 : w.cell? ⟨b, 6, none⟩ = some (.bool b2)
  fr : ∀ o, w.frozen? ⟨b, o, none⟩ = false
  lt : b < w.heap.size
theorem MetaAt.keep {w w' : World} {b : Nat} {t g l s e : Int} {b1 b2 : Bool} (k : MetaAt w b t g l s e b1 b2) (hb : Below w.heap.size w w') : MetaAt w' b t g l s e b1 b2 :=
  ⟨by rw [hb.cell (p := ⟨b, 0, none⟩) k.lt]; exact k.c0, by rw [hb.cell (p := ⟨b, 1, none⟩) k.lt]; exact k.c1, by rw [hb.cell (p := ⟨b, 2, none⟩) k.lt]; exact k.c2, by rw [hb.cell (p := ⟨b, 3, none⟩) k.lt]; exact k.c3, by rw [hb.cell (p := ⟨b, 4, none⟩) k.lt]; exact k.c4, by rw [hb.cell (p := ⟨b, 5, none⟩) k.lt]; exact k.c5, by rw [hb.cell (p := ⟨b, 6, none⟩) k.lt]; exact k.c6,
    fun o => by rw [hb.frozen (p := ⟨b, o, none⟩) k.lt]; exact k.fr o, Nat.lt_of_lt_of_le k.lt hb.size⟩
theorem MetaAt.new (w : World) (t g l s e : Int) (b1 b2 : Bool) (x : TypeId) : MetaAt (w.alloc (.cells #[.int .i64 t, .int .i64 g, .int .i64 l, .int .i64 s, .int .i64 e, .bool b1, .bool b2] x)) w.heap.size t g l s e b1 b2 :=
  ⟨by simp, by simp, by simp, by simp, by simp, by simp, by simp, fun o => by simp, by simp⟩
def addT (a b : Int) : Int := if 1000000000000000 < a + b then 1000000000000000 else a + b
theorem addT_time {a b : Int} (ha : 0 ≤ a) (hb : 0 ≤ b) : 0 ≤ addT a b ∧ addT a b ≤ 1000000000000000 := by unfold addT; split <;> omega
def metaB (t g l s e : Int) : Bool := timeB t && timeB g && timeB l && timeB s && timeB e
def metaC (t g l s e : Int) : Int := if metaB t g l s e = true then 0 else 3
theorem metaC_ok {t g l s e : Int} (h : metaB t g l s e = true) : metaC t g l s e = 0 := by rw [metaC, if_pos h]
theorem metaC_bad {t g l s e : Int} (h : metaB t g l s e = false) : metaC t g l s e = 3 := by rw [metaC, if_neg (by rw [h]; decide)]
theorem metaB_of {t g l s e : Int} (h : metaB t g l s e = true) : (0 ≤ t ∧ t ≤ 1000000000000000) ∧ (0 ≤ g ∧ g ≤ 1000000000000000) ∧ (0 ≤ l ∧ l ≤ 1000000000000000) ∧ (0 ≤ s ∧ s ≤ 1000000000000000) ∧ (0 ≤ e ∧ e ≤ 1000000000000000) := by
  simp only [metaB, Bool.and_eq_true] at h
  exact ⟨timeB_of h.1.1.1.1, timeB_of h.1.1.1.2, timeB_of h.1.1.2, timeB_of h.1.2, timeB_of h.2⟩
def askB (t g l s e n : Int) : Bool := metaB t g l s e && timeB n && decide (t ≤ n)
def askM (t g l s e n : Int) : Int := if askB t g l s e n = true then 0 else 3
theorem askM_ok {t g l s e n : Int} (h : askB t g l s e n = true) : askM t g l s e n = 0 := by rw [askM, if_pos h]
theorem askM_bad {t g l s e n : Int} (h : askB t g l s e n = false) : askM t g l s e n = 3 := by rw [askM, if_neg (by rw [h]; decide)]
theorem askB_of {t g l s e n : Int} (h : askB t g l s e n = true) : metaB t g l s e = true ∧ (0 ≤ n ∧ n ≤ 1000000000000000) ∧ t ≤ n := by
  simp only [askB, Bool.and_eq_true, decide_eq_true_eq] at h
  exact ⟨h.1.1, timeB_of h.1.2, h.2⟩
def ageM (t g n : Int) : Int := addT g (n - t)
def ageA (t g l s e n : Int) : Int := if askB t g l s e n = true then ageM t g n else 0
theorem ageA_ok {t g l s e n : Int} (h : askB t g l s e n = true) : ageA t g l s e n = ageM t g n := by rw [ageA, if_pos h]
theorem ageA_bad {t g l s e n : Int} (h : askB t g l s e n = false) : ageA t g l s e n = 0 := by rw [ageA, if_neg (by rw [h]; decide)]
def lifeM (l : Int) (b1 b2 : Bool) : Int := if (b1 || b2) = true then 0 else l
/-- The phase of an answer of this age, with this life. -/
def phaseV (a li s e : Int) (b2 : Bool) : Int := if a < li then 1 else if (!b2 && decide (a < addT li s)) = true then 2 else if a < addT li e then 3 else 0
def phaseM (t g l s e : Int) (b1 b2 : Bool) (n : Int) : Int := phaseV (ageM t g n) (lifeM l b1 b2) s e b2
def phaseA (t g l s e : Int) (b1 b2 : Bool) (n : Int) : Int := if askB t g l s e n = true then phaseM t g l s e b1 b2 n else 0
theorem phaseA_ok {t g l s e n : Int} {b1 b2 : Bool} (h : askB t g l s e n = true) : phaseA t g l s e b1 b2 n = phaseM t g l s e b1 b2 n := by rw [phaseA, if_pos h]
theorem phaseA_bad {t g l s e n : Int} {b1 b2 : Bool} (h : askB t g l s e n = false) : phaseA t g l s e b1 b2 n = 0 := by rw [phaseA, if_neg (by rw [h]; decide)]
theorem phase1 {a li s e : Int} {b2 : Bool} (h : a < li) : phaseV a li s e b2 = 1 := by rw [phaseV, if_pos h]
theorem phase2 {a li s e : Int} {b2 : Bool} (h : ¬ a < li) (h2 : (!b2 && decide (a < addT li s)) = true) : phaseV a li s e b2 = 2 := by rw [phaseV, if_neg h, if_pos h2]
theorem phase3 {a li s e : Int} {b2 : Bool} (h : ¬ a < li) (h2 : ¬ (!b2 && decide (a < addT li s)) = true) (h3 : a < addT li e) : phaseV a li s e b2 = 3 := by rw [phaseV, if_neg h, if_neg h2, if_pos h3]
theorem phase0 {a li s e : Int} {b2 : Bool} (h : ¬ a < li) (h2 : ¬ (!b2 && decide (a < addT li s)) = true) (h3 : ¬ a < addT li e) : phaseV a li s e b2 = 0 := by rw [phaseV, if_neg h, if_neg h2, if_neg h3]
theorem lifeM_time {l : Int} {b1 b2 : Bool} (h : 0 ≤ l ∧ l ≤ 1000000000000000) : 0 ≤ lifeM l b1 b2 ∧ lifeM l b1 b2 ≤ 1000000000000000 := by unfold lifeM; split <;> omega
theorem ageM_time {t g n : Int} (h : 0 ≤ g) (h2 : t ≤ n) : 0 ≤ ageM t g n ∧ ageM t g n ≤ 1000000000000000 := addT_time h (by omega)
theorem l1Min_all (x y : Int) (w : World) : Calls Tryz.prog 222 #[.int .i64 x, .int .i64 y] w fun r w' => r = .returned (.int .i64 (if x < y then x else y)) ∧ w' = w := by
  by_cases c : x < y
  · rw [if_pos c]
    go_enter Tryz.func222, Tryz.ntmps222
    go_wp2
    go_ret
    exact ⟨rfl, rfl⟩
  · rw [if_neg c]
    go_enter Tryz.func222, Tryz.ntmps222
    go_wp2
    go_ret
    exact ⟨rfl, rfl⟩
theorem plus_all (x y : Int) (hx : 0 ≤ x ∧ x ≤ 1000000000000000) (hy : 0 ≤ y ∧ y ≤ 1000000000000000) (w : World) : Calls Tryz.prog 207 #[.int .i64 x, .int .i64 y] w fun r w' => r = .returned (.int .i64 (addT x y)) ∧ w' = w := by
  obtain ⟨x0, x1⟩ := hx
  obtain ⟨y0, y1⟩ := hy
  by_cases c : 1000000000000000 - y < x
  · have e : addT x y = 1000000000000000 := by rw [addT, if_pos (by omega)]
    rw [e]
    go_enter Tryz.func207, Tryz.ntmps207
    go_wp2
    go_ret
    exact ⟨rfl, rfl⟩
  · have e : addT x y = x + y := by rw [addT, if_neg (by omega)]
    rw [e]
    go_enter Tryz.func207, Tryz.ntmps207
    go_wp2
    go_ret
    exact ⟨rfl, rfl⟩
theorem implAdd_all (x y : Int) (hx : 0 ≤ x ∧ x ≤ 1000000000000000) (hy : 0 ≤ y ∧ y ≤ 1000000000000000) (w : World) : Calls Tryz.prog 155 #[.int .i64 x, .int .i64 y] w fun r w' => r = .returned (.agg #[.int .i64 0, .int .i64 (addT x y)]) ∧ Below w.heap.size w w' := by
  by_cases c : x + y < 1000000000000000
  · have := implAdd_under x y hx.1 hx.2 hy.1 hy.2 c w
    rwa [show addT x y = x + y by rw [addT, if_neg (by omega)]]
  · have := implAdd_over x y hx.1 hx.2 hy.1 hy.2 (by omega) w
    rwa [show addT x y = 1000000000000000 by unfold addT; split <;> omega]
set_option maxHeartbeats 4000000 in
theorem specMeta_any (t g l s e : Int) (b1 b2 : Bool) (w : World) :
    Calls Tryz.prog 121 #[.agg #[.int .i64 t, .int .i64 g, .int .i64 l, .int .i64 s, .int .i64 e, .bool b1, .bool b2]] w fun r w' => r = .returned (.int .i64 (metaC t g l s e)) ∧ Below w.heap.size w w' := by
  have HT : Hid (∀ x w, Calls Tryz.prog 175 #[.int .i64 x] w fun r w' => r = .returned (.bool (timeB x)) ∧ w' = w) := l1Time_all
  have HB : Hid (Below w.heap.size w (w.alloc (.cells #[.int .i64 t, .int .i64 g, .int .i64 l, .int .i64 s, .int .i64 e, .bool b1, .bool b2] 40))) := (Below.refl _ _).alloc (Nat.le_refl _) _
  cases ht : timeB t
  · rw [metaC_bad (by simp [metaB, ht])]
    go_enter Tryz.func121, Tryz.ntmps121
    go_wp2_with fail
    refine (HT.out t _).mono ?_
    rintro r w1 ⟨rfl, rfl⟩
    rw [ht]
    go_wp2_with fail
    go_ret
    exact ⟨rfl, HB.out⟩
  cases hg : timeB g
  · rw [metaC_bad (by simp [metaB, hg])]
    go_enter Tryz.func121, Tryz.ntmps121
    go_wp2_with fail
    refine (HT.out t _).mono ?_
    rintro r w1 ⟨rfl, rfl⟩
    rw [ht]
    go_wp2_with fail
    refine (HT.out g _).mono ?_
    rintro r w1 ⟨rfl, rfl⟩
    rw [hg]
    go_wp2_with fail
    go_ret
    exact ⟨rfl, HB.out⟩
  cases hl : timeB l
  · rw [metaC_bad (by simp [metaB, hl])]
    go_enter Tryz.func121, Tryz.ntmps121
    go_wp2_with fail
    refine (HT.out t _).mono ?_
    rintro r w1 ⟨rfl, rfl⟩
    rw [ht]
    go_wp2_with fail
    refine (HT.out g _).mono ?_
    rintro r w1 ⟨rfl, rfl⟩
    rw [hg]
    go_wp2_with fail
    refine (HT.out l _).mono ?_
    rintro r w1 ⟨rfl, rfl⟩
    rw [hl]
    go_wp2_with fail
    go_ret
    exact ⟨rfl, HB.out⟩
  cases hs : timeB s
  · rw [metaC_bad (by simp [metaB, hs])]
    go_enter Tryz.func121, Tryz.ntmps121
    go_wp2_with fail
    refine (HT.out t _).mono ?_
    rintro r w1 ⟨rfl, rfl⟩
    rw [ht]
    go_wp2_with fail
    refine (HT.out g _).mono ?_
    rintro r w1 ⟨rfl, rfl⟩
    rw [hg]
    go_wp2_with fail
    refine (HT.out l _).mono ?_
    rintro r w1 ⟨rfl, rfl⟩
    rw [hl]
    go_wp2_with fail
    refine (HT.out s _).mono ?_
    rintro r w1 ⟨rfl, rfl⟩
    rw [hs]
    go_wp2_with fail
    go_ret
    exact ⟨rfl, HB.out⟩
  cases he : timeB e
  · rw [metaC_bad (by simp [metaB, he])]
    go_enter Tryz.func121, Tryz.ntmps121
    go_wp2_with fail
    refine (HT.out t _).mono ?_
    rintro r w1 ⟨rfl, rfl⟩
    rw [ht]
    go_wp2_with fail
    refine (HT.out g _).mono ?_
    rintro r w1 ⟨rfl, rfl⟩
    rw [hg]
    go_wp2_with fail
    refine (HT.out l _).mono ?_
    rintro r w1 ⟨rfl, rfl⟩
    rw [hl]
    go_wp2_with fail
    refine (HT.out s _).mono ?_
    rintro r w1 ⟨rfl, rfl⟩
    rw [hs]
    go_wp2_with fail
    refine (HT.out e _).mono ?_
    rintro r w1 ⟨rfl, rfl⟩
    rw [he]
    go_wp2_with fail
    go_ret
    exact ⟨rfl, HB.out⟩
  rw [metaC_ok (by simp [metaB, ht, hg, hl, hs, he])]
  go_enter Tryz.func121, Tryz.ntmps121
  go_wp2_with fail
  refine (HT.out t _).mono ?_
  rintro r w1 ⟨rfl, rfl⟩
  rw [ht]
  go_wp2_with fail
  refine (HT.out g _).mono ?_
  rintro r w1 ⟨rfl, rfl⟩
  rw [hg]
  go_wp2_with fail
  refine (HT.out l _).mono ?_
  rintro r w1 ⟨rfl, rfl⟩
  rw [hl]
  go_wp2_with fail
  refine (HT.out s _).mono ?_
  rintro r w1 ⟨rfl, rfl⟩
  rw [hs]
  go_wp2_with fail
  refine (HT.out e _).mono ?_
  rintro r w1 ⟨rfl, rfl⟩
  rw [he]
  go_wp2_with fail
  go_ret
  exact ⟨rfl, HB.out⟩
theorem meta_ix0 (t g l s e : Int) (w : World) : (Instr.index 204 (.agg #[.int .i64 t, .int .i64 g, .int .i64 l, .int .i64 s, .int .i64 e]) (.int .i64 0)).run Tryz.prog w = .ok (.int .i64 t) w := by kernel_rfl
theorem meta_ix1 (t g l s e : Int) (w : World) : (Instr.index 204 (.agg #[.int .i64 t, .int .i64 g, .int .i64 l, .int .i64 s, .int .i64 e]) (.int .i64 1)).run Tryz.prog w = .ok (.int .i64 g) w := by kernel_rfl
theorem meta_ix2 (t g l s e : Int) (w : World) : (Instr.index 204 (.agg #[.int .i64 t, .int .i64 g, .int .i64 l, .int .i64 s, .int .i64 e]) (.int .i64 2)).run Tryz.prog w = .ok (.int .i64 l) w := by kernel_rfl
theorem meta_ix3 (t g l s e : Int) (w : World) : (Instr.index 204 (.agg #[.int .i64 t, .int .i64 g, .int .i64 l, .int .i64 s, .int .i64 e]) (.int .i64 3)).run Tryz.prog w = .ok (.int .i64 s) w := by kernel_rfl
theorem meta_ix4 (t g l s e : Int) (w : World) : (Instr.index 204 (.agg #[.int .i64 t, .int .i64 g, .int .i64 l, .int .i64 s, .int .i64 e]) (.int .i64 4)).run Tryz.prog w = .ok (.int .i64 e) w := by kernel_rfl
set_option maxHeartbeats 8000000 in
theorem implMeta_any (t g l s e : Int) (b1 b2 : Bool) (w : World) :
    Calls Tryz.prog 96 #[.agg #[.int .i64 t, .int .i64 g, .int .i64 l, .int .i64 s, .int .i64 e, .bool b1, .bool b2]] w fun r w' => r = .returned (.int .i64 (metaC t g l s e)) ∧ Below w.heap.size w w' := by
  have HT : Hid (∀ x w, Calls Tryz.prog 154 #[.int .i64 x] w fun r w' => r = .returned (.bool (timeB x)) ∧ w' = w) := isTime_all
  have HB : Hid (Below w.heap.size w (w.alloc (.cells #[.int .i64 t, .int .i64 g, .int .i64 l, .int .i64 s, .int .i64 e, .bool b1, .bool b2] 40))) := (Below.refl _ _).alloc (Nat.le_refl _) _
  obtain ⟨v, hv⟩ : ∃ X, Hid (X = w.alloc (.cells #[.int .i64 t, .int .i64 g, .int .i64 l, .int .i64 s, .int .i64 e, .bool b1, .bool b2] 40)) := ⟨_, rfl⟩
  go_enter Tryz.func96, Tryz.ntmps96
  go_wp2_with fail
  rw [← hv.out]
  rw [← hv.out] at HB
  clear hv
  go_loopw [16] (fun i wr => ∃ k : Nat, k ≤ 5 ∧ i = .int .i64 k ∧ (∀ j, j < k → timeB ([t, g, l, s, e].getD j 0) = true) ∧ wr = v) (fun i _ => 5 - (intOf i).toNat)
  case atStart => exact ⟨0, Nat.zero_le _, rfl, fun j hj => absurd hj (by omega), rfl⟩
  case round =>
    obtain ⟨k, hk, rfl, hw, rfl⟩ := hrel
    have HW : Hid (∀ j, j < k → timeB ([t, g, l, s, e].getD j 0) = true) := hw
    clear hw
    by_cases k0 : k = 0
    · subst k0
      have hix := meta_ix0 t g l s e
      cases ht : timeB t
      · have HE : Hid (3 = metaC t g l s e) := (metaC_bad (by simp [metaB, ht])).symm
        go_wp2_with fail
        refine (HT.out t _).mono ?_
        rintro r w1 ⟨rfl, rfl⟩
        rw [ht]
        go_wp2_with fail
        go_ret
        exact ⟨ret_int HE.out, HB.out⟩
      · have HV : Hid (timeB t = true) := ht
        go_wp2_with fail
        refine (HT.out t _).mono ?_
        rintro r w1 ⟨rfl, rfl⟩
        rw [ht]
        clear ht
        go_wp2_with fail
        go_roundw
        case rel =>
          refine ⟨1, by omega, by go_num, fun j hj => ?_, by trivial⟩
          by_cases q : j = 0
          · subst q; exact HV.out
          · exact HW.out j (by omega)
        case measure => simp [intOf]
    by_cases k1 : k = 1
    · subst k1
      have hix := meta_ix1 t g l s e
      cases hg : timeB g
      · have HE : Hid (3 = metaC t g l s e) := (metaC_bad (by simp [metaB, hg])).symm
        go_wp2_with fail
        refine (HT.out g _).mono ?_
        rintro r w1 ⟨rfl, rfl⟩
        rw [hg]
        go_wp2_with fail
        go_ret
        exact ⟨ret_int HE.out, HB.out⟩
      · have HV : Hid (timeB g = true) := hg
        go_wp2_with fail
        refine (HT.out g _).mono ?_
        rintro r w1 ⟨rfl, rfl⟩
        rw [hg]
        clear hg
        go_wp2_with fail
        go_roundw
        case rel =>
          refine ⟨2, by omega, by go_num, fun j hj => ?_, by trivial⟩
          by_cases q : j = 1
          · subst q; exact HV.out
          · exact HW.out j (by omega)
        case measure => simp [intOf]
    by_cases k2 : k = 2
    · subst k2
      have hix := meta_ix2 t g l s e
      cases hl : timeB l
      · have HE : Hid (3 = metaC t g l s e) := (metaC_bad (by simp [metaB, hl])).symm
        go_wp2_with fail
        refine (HT.out l _).mono ?_
        rintro r w1 ⟨rfl, rfl⟩
        rw [hl]
        go_wp2_with fail
        go_ret
        exact ⟨ret_int HE.out, HB.out⟩
      · have HV : Hid (timeB l = true) := hl
        go_wp2_with fail
        refine (HT.out l _).mono ?_
        rintro r w1 ⟨rfl, rfl⟩
        rw [hl]
        clear hl
        go_wp2_with fail
        go_roundw
        case rel =>
          refine ⟨3, by omega, by go_num, fun j hj => ?_, by trivial⟩
          by_cases q : j = 2
          · subst q; exact HV.out
          · exact HW.out j (by omega)
        case measure => simp [intOf]
    by_cases k3 : k = 3
    · subst k3
      have hix := meta_ix3 t g l s e
      cases hs : timeB s
      · have HE : Hid (3 = metaC t g l s e) := (metaC_bad (by simp [metaB, hs])).symm
        go_wp2_with fail
        refine (HT.out s _).mono ?_
        rintro r w1 ⟨rfl, rfl⟩
        rw [hs]
        go_wp2_with fail
        go_ret
        exact ⟨ret_int HE.out, HB.out⟩
      · have HV : Hid (timeB s = true) := hs
        go_wp2_with fail
        refine (HT.out s _).mono ?_
        rintro r w1 ⟨rfl, rfl⟩
        rw [hs]
        clear hs
        go_wp2_with fail
        go_roundw
        case rel =>
          refine ⟨4, by omega, by go_num, fun j hj => ?_, by trivial⟩
          by_cases q : j = 3
          · subst q; exact HV.out
          · exact HW.out j (by omega)
        case measure => simp [intOf]
    by_cases k4 : k = 4
    · subst k4
      have hix := meta_ix4 t g l s e
      cases he : timeB e
      · have HE : Hid (3 = metaC t g l s e) := (metaC_bad (by simp [metaB, he])).symm
        go_wp2_with fail
        refine (HT.out e _).mono ?_
        rintro r w1 ⟨rfl, rfl⟩
        rw [he]
        go_wp2_with fail
        go_ret
        exact ⟨ret_int HE.out, HB.out⟩
      · have HV : Hid (timeB e = true) := he
        go_wp2_with fail
        refine (HT.out e _).mono ?_
        rintro r w1 ⟨rfl, rfl⟩
        rw [he]
        clear he
        go_wp2_with fail
        go_roundw
        case rel =>
          refine ⟨5, by omega, by go_num, fun j hj => ?_, by trivial⟩
          by_cases q : j = 4
          · subst q; exact HV.out
          · exact HW.out j (by omega)
        case measure => simp [intOf]
    obtain rfl : k = 5 := by omega
    have HE : Hid (0 = metaC t g l s e) := (metaC_ok (by have h0 := HW.out 0 (by omega); have h1 := HW.out 1 (by omega); have h2 := HW.out 2 (by omega); have h3 := HW.out 3 (by omega); have h4 := HW.out 4 (by omega); simp at h0 h1 h2 h3 h4; simp [metaB, h0, h1, h2, h3, h4])).symm
    go_wp2_with fail
    go_ret
    exact ⟨ret_int HE.out, HB.out⟩
end Go.Proofs.YtolkgnnjocmkdaaGreatDoor
/-
  What is kept with an answer, handed over by the laws.
-/
namespace Go.Proofs.YtolkgnnjocmkdaaGreatDoor
open Go.ChangeShapes Go.WideShapes Go.ChangeAt Go.RowKit Go.Sort
set_option maxHeartbeats 2000000 in
theorem toMeta_any (t g l s e : Int) (b1 b2 : Bool) (w : World) :
    Calls Tryz.prog 61 #[.agg #[.int .i64 t, .int .i64 g, .int .i64 l, .int .i64 s, .int .i64 e, .bool b1, .bool b2]] w fun r w' => r = .returned (.agg #[.int .i64 t, .int .i64 g, .int .i64 l, .int .i64 s, .int .i64 e, .bool b1, .bool b2]) ∧ Below w.heap.size w w' := by
  go_enter Tryz.func61, Tryz.ntmps61
  go_wp2
  exact bodyPost_ret (v := .agg #[.int .i64 t, .int .i64 g, .int .i64 l, .int .i64 s, .int .i64 e, .bool b1, .bool b2]) (by simp [results, Tryz.results61, go_sem]) rfl ⟨rfl, (((Below.refl w.heap.size w).alloc (Nat.le_refl _) _).alloc (by simp) _).alloc (by simp; omega) _⟩
end Go.Proofs.YtolkgnnjocmkdaaGreatDoor
/-
  What is kept with an answer, compared with itself.
-/
namespace Go.Proofs.YtolkgnnjocmkdaaGreatDoor
open Go.ChangeShapes Go.WideShapes Go.ChangeAt Go.RowKit Go.Sort
set_option maxHeartbeats 2000000 in
theorem eqMeta_same (t g l s e : Int) (b1 b2 : Bool) (w : World) : Calls Tryz.prog 68 #[.agg #[.int .i64 t, .int .i64 g, .int .i64 l, .int .i64 s, .int .i64 e, .bool b1, .bool b2], .agg #[.int .i64 t, .int .i64 g, .int .i64 l, .int .i64 s, .int .i64 e, .bool b1, .bool b2]] w fun r w' => r = .returned (.bool true) ∧ Below w.heap.size w w' := by
  have e1 : (b1 != b1) = false := by simp
  have e2 : (b2 != b2) = false := by simp
  go_enter Tryz.func68, Tryz.ntmps68
  go_wp2
  go_ret
  exact ⟨rfl, ((Below.refl w.heap.size w).alloc (Nat.le_refl _) _).alloc (by simp) _⟩
end Go.Proofs.YtolkgnnjocmkdaaGreatDoor
/-
  The laws' comparing of two lists of items that are alike.
-/
namespace Go.Proofs.YtolkgnnjocmkdaaGreatDoor
open Go.ChangeShapes Go.WideShapes Go.ChangeAt Go.RowKit Go.Sort
set_option maxRecDepth 100000 in
set_option maxHeartbeats 2000000 in
theorem eqHeaderS_same (w : World) (b1 o1 b2 o2 c1 c2 : Nat) (l : List Hdr) (hl : l.length ≤ 1048576) (h1 : HeadsAt w b1 o1 l) (h2 : HeadsAt w b2 o2 l) :
    Calls Tryz.prog 66 #[.slice (some ⟨b1, o1, none⟩) l.length c1, .slice (some ⟨b2, o2, none⟩) l.length c2] w fun e w' => e = .returned (.bool true) ∧ Below w.heap.size w w' := by
  have H1 : Hid (HeadsAt w b1 o1 l) := h1
  have H2 : Hid (HeadsAt w b2 o2 l) := h2
  clear h1 h2
  generalize hn : l.length = n at *
  have HN : Hid (l.length = n) := hn
  clear hn
  go_enter Tryz.func66, Tryz.ntmps66
  go_wp2_with fail
  go_loopw [5] (fun i wr => ∃ k : Nat, k ≤ n ∧ i = .int .i64 k ∧ Below w.heap.size w wr) (fun i _ => n - (intOf i).toNat)
  case atStart => exact ⟨0, Nat.zero_le _, rfl, Below.refl _ _⟩
  case round =>
    obtain ⟨k, hk, rfl, hb⟩ := hrel
    by_cases hlt : k < n
    · obtain ⟨r, hr⟩ : ∃ r, l[k]? = some r := ⟨l[k]'(by have := HN.out; omega), List.getElem?_eq_getElem _⟩
      obtain ⟨p1, p3⟩ := (H1.out.keep hb) k r hr
      obtain ⟨q1, q3⟩ := (H2.out.keep hb) k r hr
      have x1 := cell_regrown p1
      have x3 := cell_regrown p3
      have y1 := cell_regrown q1
      have y3 := cell_regrown q3
      have cE : ∀ d os, Calls Tryz.prog 127 #[.agg #[.string r.name, .string r.value], .agg #[.string r.name, .string r.value]] (grow (redrawn wr d) os) fun e w'' => e = .returned (.bool true) ∧ ∃ p : Regrown, w'' = grow (redrawn wr p.d) p.os := fun d os => Calls.regrown_of (eqHeader_same r _)
      have g0 : (0 : Int) ≤ k := by omega
      have g : (k : Int) < n := by omega
      clear hr p1 p3 q1 q3
      generalize r.name = rn at *
      generalize r.value = rv at *
      go_wp2_with fail
      refine wp_region_quiet_below (by kernel_rfl) (by kernel_rfl) ?_
      repeat (go_big_quiet_step ((go_at_call 127; exact cE _ _)))
      refine wpQuiet_nil ?_
      intro w2 hw2
      have hbb : Below w.heap.size w w2 := by
        obtain ⟨⟨d, os⟩, rfl⟩ := hw2
        exact hb.trans ((below_regrown wr d os).mono hb.size)
      clear x1 x3 y1 y3 cE hw2 hb
      go_wp2_with fail
      go_roundw
      case rel => exact ⟨k + 1, by omega, by go_num, hbb⟩
      case measure => simp [intOf]; omega
    · go_wp2_with fail
      go_ret
      exact ⟨rfl, hb⟩
end Go.Proofs.YtolkgnnjocmkdaaGreatDoor
