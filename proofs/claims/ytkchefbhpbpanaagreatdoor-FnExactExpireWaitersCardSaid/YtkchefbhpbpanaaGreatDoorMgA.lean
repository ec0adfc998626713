/-
  Texts of one claim, one behind the other.
-/
import Derived.Below
import Derived.BigQuiet
import Derived.Deep.AppendLies
import Derived.Deep.CutBlock
import Derived.Deep.CutRange
import Derived.Deep.MidRow
import Derived.Deep.QuietTactic
import Derived.Deep.RegionHeld3
import Derived.Deep.RegionWith
import Derived.Deep.Slices
import Derived.Deep.Strs
import Derived.Deep.WholeRow
import Derived.Laws.Cells
import Derived.Laws.IdiomCopy
import Derived.Laws.IdiomStrings
import Derived.Laws.OwnMore
import Derived.Lib.QuietBelow
import Derived.OpenShut
import Derived.ProofKit
import Derived.Shelf.Abstract
import Derived.Shelf.LaysM
import Derived.Shelf.Small.Wraps
import Derived.Shelf.Strconv.Clone
import Derived.Shelf.Strconv.Itoa4
import Derived.Shelf.Strings.Cut
import Derived.Shelf.Strings.FieldsFuncAny
import Derived.Shelf.Strings.OnBuilder
import Derived.Shelf.Strings.Prefix
import Derived.Shelf.Strings.Search2
import Derived.Shelf.Strings.SlTrimAscii
import Derived.Shelf.Strings.Split
import Derived.Test.YtkchefbhpbpanaaGreatDoorProg
import Derived.WalkKit
import Derived.WalkLawsBesides
import Derived.WalkSmall
import Derived.WalkSpells
/-
  Small lemmas that the walks share.
-/
namespace Go.Proofs.YtkchefbhpbpanaaGreatDoor
open Go.ChangeShapes Go.WideShapes Go.ChangeAt Go.RowKit
theorem bcell {W w1 : World} (hb : Below W.heap.size W w1) : (∀ b o, b < W.heap.size → w1.cell? ⟨b, o, none⟩ = W.cell? ⟨b, o, none⟩) ∧ (∀ b o, b < W.heap.size → w1.frozen? ⟨b, o, none⟩ = W.frozen? ⟨b, o, none⟩) :=
  ⟨fun b o h => hb.cell (p := ⟨b, o, none⟩) h, fun b o h => hb.frozen (p := ⟨b, o, none⟩) h⟩
theorem two_set {w : World} {B : Nat} {u0 u1 v0 v1 : Value} (p0 : w.cell? ⟨B, 0, none⟩ = some u0) (p1 : w.cell? ⟨B, 1, none⟩ = some u1) :
    ((w.setCell ⟨B, 0, none⟩ v0).setCell ⟨B, 1, none⟩ v1).cell? ⟨B, 0, none⟩ = some v0 ∧ ((w.setCell ⟨B, 0, none⟩ v0).setCell ⟨B, 1, none⟩ v1).cell? ⟨B, 1, none⟩ = some v1 := by
  constructor
  · rw [World.cell?_setCell_other _ _ _ _ (by intro h; have := congrArg Addr.off h; simp at this), World.cell?_setCell_same _ _ _ p0]
  · refine World.cell?_setCell_same _ _ _ (u := u1) ?_
    rw [World.cell?_setCell_other _ _ _ _ (by intro h; have := congrArg Addr.off h; simp at this), p1]
theorem ret_int {k : IntKind} {a b : Int} (h : a = b) : Ending.returned (.int k a) = .returned (.int k b) := by rw [h]
theorem ret_bool {a b : Bool} (h : a = b) : Ending.returned (.bool a) = .returned (.bool b) := by rw [h]
theorem ret_str {a b : ByteArray} (h : a = b) : Ending.returned (.string a) = .returned (.string b) := by rw [h]
theorem take_snoc (s : ByteArray) (k : Nat) (h : k < s.size) : s.data.toList.take (k + 1) = s.data.toList.take k ++ [s[k]] := by
  rw [List.take_succ_eq_append_getElem (by simpa using h)]; rfl
end Go.Proofs.YtkchefbhpbpanaaGreatDoor
/-
  What a law keeps in memory while it goes on: facts that hang on the blocks of a stretch alone.
-/
namespace Go.Proofs.YtkchefbhpbpanaaGreatDoor
open Go.ChangeShapes Go.WideShapes Go.ChangeAt Go.RowKit
theorem hidL {p : Prop} (h : p) : Hid p := h
/-- What C says hangs on the blocks from l up to h alone. -/
def Dep (l h : Nat) (C : World → Prop) : Prop :=
  ∀ X X' : World, h ≤ X.heap.size → X.heap.size ≤ X'.heap.size → (∀ b o, l ≤ b → b < h → X'.cell? ⟨b, o, none⟩ = X.cell? ⟨b, o, none⟩ ∧ X'.frozen? ⟨b, o, none⟩ = X.frozen? ⟨b, o, none⟩) → C X → C X'
structure At (l h : Nat) (C : Nat → Nat → World → Prop) (X : World) : Prop where
  le : h ≤ X.heap.size
  dep : Dep l h (C l h)
  val : C l h X
/-- Nothing is written but in the blocks from lo up to hi, and in new ones. -/
structure Wi (lo hi : Nat) (X X' : World) : Prop where
  size : X.heap.size ≤ X'.heap.size
  cell : ∀ b o, b < X.heap.size → (b < lo ∨ hi ≤ b) → X'.cell? ⟨b, o, none⟩ = X.cell? ⟨b, o, none⟩
  frozen : ∀ b o, b < X.heap.size → (b < lo ∨ hi ≤ b) → X'.frozen? ⟨b, o, none⟩ = X.frozen? ⟨b, o, none⟩
theorem At.wi {l h lo hi : Nat} {C : Nat → Nat → World → Prop} {X X' : World} (k : At l h C X) (g : Wi lo hi X X') (hd : h ≤ lo ∨ hi ≤ l) : At l h C X' :=
  ⟨Nat.le_trans k.le g.size, k.dep, k.dep X X' k.le g.size (fun b o h1 h2 => ⟨g.cell b o (Nat.lt_of_lt_of_le h2 k.le) (by omega), g.frozen b o (Nat.lt_of_lt_of_le h2 k.le) (by omega)⟩) k.val⟩
theorem Wi.of {lo hi : Nat} {X X' : World} (hb : Below X.heap.size X X') : Wi lo hi X X' :=
  ⟨hb.size, fun b o h _ => hb.cell (p := ⟨b, o, none⟩) h, fun b o h _ => hb.frozen (p := ⟨b, o, none⟩) h⟩
theorem At.keep {l h : Nat} {C : Nat → Nat → World → Prop} {X X' : World} (k : At l h C X) (hb : Below X.heap.size X X') : At l h C X' :=
  k.wi (lo := h) (hi := h) (Wi.of hb) (.inl (Nat.le_refl _))
theorem At.al {l h : Nat} {C : Nat → Nat → World → Prop} {X : World} (k : At l h C X) (o : Obj) : At l h C (X.alloc o) := k.keep ((Below.refl _ _).alloc (Nat.le_refl _) _)
theorem At.set {l h : Nat} {C : Nat → Nat → World → Prop} {X : World} (k : At l h C X) {b i : Nat} (u : Value) (hd : b < l ∨ h ≤ b) : At l h C (X.setCell ⟨b, i, none⟩ u) :=
  k.wi (lo := b) (hi := b + 1) ⟨by simp, fun b' o _ hne => World.cell?_setCell_other _ _ _ _ (fun e => by have := congrArg Addr.block e; simp only at this; omega), fun b' o _ _ => by rw [World.frozen?_setCell]⟩ (by omega)
/-- A box that lies there. -/
def Bx (b : Nat) (vs : List Value) (_ _ : Nat) (X : World) : Prop := (∀ i v, vs[i]? = some v → X.cell? ⟨b, i, none⟩ = some v) ∧ ∀ o, X.frozen? ⟨b, o, none⟩ = false
theorem Bx.dep (b : Nat) (vs : List Value) (l h : Nat) : Dep b (b + 1) (Bx b vs l h) := fun X X' _ _ h k =>
  ⟨fun i v hv => by rw [(h b i (Nat.le_refl _) (Nat.lt_succ_self _)).1]; exact k.1 i v hv, fun o => by rw [(h b o (Nat.le_refl _) (Nat.lt_succ_self _)).2]; exact k.2 o⟩
theorem Bx.new (X : World) (vs : List Value) (t : TypeId) : At X.heap.size (X.heap.size + 1) (Bx X.heap.size vs) (X.alloc (.cells vs.toArray t)) := by
  refine ⟨by simp, Bx.dep _ _ _ _, fun i v hv => ?_, fun o => ?_⟩
  · rw [World.cell?_alloc_mark]
    simpa using hv
  · have e := heap_alloc_new X (.cells vs.toArray t)
    unfold World.frozen?
    rw [e]
    simp
theorem Bx.newAt {X : World} {b : Nat} (hb : X.heap.size = b) (vs : List Value) (t : TypeId) : At b (b + 1) (Bx b vs) (X.alloc (.cells vs.toArray t)) := by
  subst hb
  exact Bx.new X vs t
theorem Bx.put {X : World} {b : Nat} {vs : List Value} (k : At b (b + 1) (Bx b vs) X) (i : Nat) (u : Value) (hi : i < vs.length) : At b (b + 1) (Bx b (vs.set i u)) (X.setCell ⟨b, i, none⟩ u) := by
  refine ⟨by simpa using k.le, Bx.dep _ _ _ _, fun j v hv => ?_, fun o => by rw [World.frozen?_setCell]; exact k.val.2 o⟩
  by_cases e : j = i
  · subst e
    rw [List.getElem?_set_self hi] at hv
    obtain rfl := Option.some.inj hv
    exact World.cell?_setCell_same _ _ _ (k.val.1 j (vs[j]) (List.getElem?_eq_getElem hi))
  · rw [List.getElem?_set_ne (fun q => e q.symm)] at hv
    rw [World.cell?_setCell_other _ _ _ _ (fun q => e (by have := congrArg Addr.off q; simpa using this.symm))]
    exact k.val.1 j v hv
theorem Wi.trans {lo hi : Nat} {X Y Z : World} (g : Wi lo hi X Y) (k : Wi lo hi Y Z) : Wi lo hi X Z :=
  ⟨Nat.le_trans g.size k.size, fun b o h1 h2 => by rw [k.cell b o (Nat.lt_of_lt_of_le h1 g.size) h2]; exact g.cell b o h1 h2, fun b o h1 h2 => by rw [k.frozen b o (Nat.lt_of_lt_of_le h1 g.size) h2]; exact g.frozen b o h1 h2⟩
theorem Wi.wide {lo hi l h : Nat} {X Y : World} (g : Wi lo hi X Y) (h1 : l ≤ lo) (h2 : hi ≤ h) : Wi l h X Y :=
  ⟨g.size, fun b o hb hd => g.cell b o hb (by omega), fun b o hb hd => g.frozen b o hb (by omega)⟩
end Go.Proofs.YtkchefbhpbpanaaGreatDoor
/-
  A box that is written cell by cell.
-/
namespace Go.Proofs.YtkchefbhpbpanaaGreatDoor
open Go.ChangeShapes Go.WideShapes Go.ChangeAt Go.RowKit
def putAll (X : World) (b : Nat) : Nat → List Value → World
  | _, [] => X
  | i, v :: vs => putAll (X.setCell ⟨b, i, none⟩ v) b (i + 1) vs
theorem Bx.putFrom {b : Nat} : ∀ (vs : List Value) (X : World) (i : Nat) (zs : List Value), zs.length = i + vs.length → At b (b + 1) (Bx b zs) X → At b (b + 1) (Bx b (zs.take i ++ vs)) (putAll X b i vs)
  | [], X, i, zs, hl, k => by
    rw [List.append_nil, List.take_of_length_le (by simp at hl; omega)]
    exact k
  | v :: vs, X, i, zs, hl, k => by
    have hi : i < zs.length := by rw [hl, List.length_cons]; omega
    have r := Bx.putFrom vs (X.setCell ⟨b, i, none⟩ v) (i + 1) (zs.set i v) (by rw [List.length_set, hl, List.length_cons]; omega) (Bx.put k i v hi)
    have e : (zs.set i v).take (i + 1) ++ vs = zs.take i ++ v :: vs := by
      rw [List.take_succ_eq_append_getElem (by rw [List.length_set]; exact hi), List.getElem_set_self, List.take_set_of_le (Nat.le_refl _)]
      simp
    rw [e] at r
    exact r
theorem Bx.putAll {b : Nat} {X : World} {zs : List Value} (k : At b (b + 1) (Bx b zs) X) (vs : List Value) (hl : zs.length = vs.length) : At b (b + 1) (Bx b vs) (putAll X b 0 vs) := by
  have r := Bx.putFrom vs X 0 zs (by omega) k
  simpa using r
theorem At.putAll {l h b : Nat} {C : Nat → Nat → World → Prop} (hd : b < l ∨ h ≤ b) : ∀ (vs : List Value) (i : Nat) {X : World}, At l h C X → At l h C (putAll X b i vs)
  | [], _, _, k => k
  | v :: vs, i, _, k => At.putAll hd vs (i + 1) (k.set v hd)
theorem below_putAll {base b : Nat} {w : World} (hb : base ≤ b) : ∀ (vs : List Value) (i : Nat) {X : World}, Below base w X → Below base w (putAll X b i vs)
  | [], _, _, k => k
  | v :: vs, i, _, k => below_putAll hb vs (i + 1) (k.setCell hb v)
end Go.Proofs.YtkchefbhpbpanaaGreatDoor
/-
  A whole struct that is loaded out of one box and stored into another one, at once.
-/
namespace Go.Proofs.YtkchefbhpbpanaaGreatDoor
open Go.ChangeShapes Go.WideShapes Go.ChangeAt Go.RowKit
theorem putAll_eq (b : Nat) : ∀ (vs : List Value) (i : Nat) (X : World), X.setCells b i vs = putAll X b i vs
  | [], _, _ => rfl
  | v :: vs, i, X => by rw [World.setCells, putAll, putAll_eq b vs (i + 1)]
theorem wp_copyOut {P : Program} {id s1 s2 d : Nat} {t ty1 ty2 : TypeId} {pos1 pos2 : String} {af1 af2 : Array Edge} {Q : Exit → Act → World → Prop} {a : Act} {X : World} {b1 b2 : Nat} {vs zs : List Value} {fs : _}
    (ht : P.underlying t = some (.struct fs)) (hz : (P.info? t).map (·.size) = some vs.length)
    (h1 : a.eval (.tmp s1) = .pointer (some ⟨b1, 0, none⟩)) (h2 : ∀ v, (a.put (some d) v).eval (.tmp s2) = .pointer (some ⟨b2, 0, none⟩)) (h3 : ∀ v, (a.put (some d) v).eval (.tmp d) = v)
    (k1 : ∀ i v, vs[i]? = some v → X.cell? ⟨b1, i, none⟩ = some v) (k2 : ∀ i v, zs[i]? = some v → X.cell? ⟨b2, i, none⟩ = some v) (f2 : ∀ o, X.frozen? ⟨b2, o, none⟩ = false) (hl : zs.length = vs.length) (one : vs.all (·.oneCell') = true)
    (K : Q .normal (a.put (some d) (.agg vs.toArray)) (putAll X b2 0 vs)) :
    (Code.region id #[{ dst := some d, op := .load t (.tmp s1), type := ty1, pos := pos1, after := af1, guard := none }, { dst := none, op := .store t (.tmp s2) (.tmp d), type := ty2, pos := pos2, after := af2, guard := none }] false).wp P Q a X := by
  have hadd : ∀ i, (⟨b1, 0, none⟩ : Addr).add i = ⟨b1, i, none⟩ := fun i => by unfold Addr.add; split <;> simp_all
  have hL := run_loadCells_list (P := P) X ⟨b1, 0, none⟩ vs (fun j v hv => by rw [hadd]; exact k1 j v hv)
  have hS := run_storeCells_cells (P := P) b2 0 vs 0 X (fun j hj => by
      obtain ⟨z, hzz⟩ : ∃ z, zs[j]? = some z := ⟨zs[j]'(by omega), List.getElem?_eq_getElem _⟩
      have := k2 j z hzz
      simp only [Nat.zero_add]
      rw [this]; rfl) (fun j _ => f2 _) (fun v hv => List.all_eq_true.1 one v hv)
  rw [Nat.add_zero, putAll_eq] at hS
  obtain ⟨inf, hi, hsz⟩ := Option.map_eq_some_iff.1 hz
  refine wp_region_list ?_
  have hL' : (loadCellsFrom ⟨b1, 0, none⟩ 0 vs.length #[]).run P X = .ok vs.toArray X := hL
  have e1 : ∀ ρ : Operand → Value, ρ (.tmp s1) = .pointer (some ⟨b1, 0, none⟩) → (execOp ρ { dst := some d, op := .load t (.tmp s1), type := ty1, pos := pos1, after := af1, guard := none }).run P X = .ok (.value (.agg vs.toArray)) X := fun ρ h => by
    simp [execOp, Instr.loadAt, loadVar, isAgg, sizeOf, typeInfo, underlying, h, ht, hi, hsz, hL', go_sem]
  have e2 : ∀ ρ : Operand → Value, ρ (.tmp s2) = .pointer (some ⟨b2, 0, none⟩) → ρ (.tmp d) = .agg vs.toArray → (execOp ρ { dst := none, op := .store t (.tmp s2) (.tmp d), type := ty2, pos := pos2, after := af2, guard := none }).run P X = .ok .skip (putAll X b2 0 vs) := fun ρ h h' => by
    simp [execOp, Instr.storeAt, storeVar, sizeOf, typeInfo, h, h', hi, hsz, hS, Value.cells, go_sem]
  have w1 := e1 a.eval h1
  have w2 := e2 (a.put (some d) (.agg vs.toArray)).eval (h2 _) (h3 _)
  clear hL hL' hS e1 e2 h1 h2 h3
  unfold wpList
  rw [if_pos (by simp [Region.wanted])]
  refine .inl ?_
  unfold Oper.wp
  rw [w1]
  show wpList _ _ _ _ _ _
  unfold wpList
  rw [if_pos (by simp [Region.wanted])]
  refine .inl ?_
  unfold Oper.wp
  rw [w2]
  show wpList _ _ _ _ _ _
  unfold wpList
  exact K
theorem wpList_loadAll {P : Program} {ops : Array Oper} {rest : List Oper} {s d b : Nat} {t ty : TypeId} {pos : String} {af : Array Edge} {Q : Exit → Act → World → Prop} {a : Act} {X : World} {vs : List Value} {fs : _}
    (ht : P.underlying t = some (.struct fs)) (hz : (P.info? t).map (·.size) = some vs.length)
    (h1 : a.eval (.tmp s) = .pointer (some ⟨b, 0, none⟩))
    (k1 : ∀ i v, vs[i]? = some v → X.cell? ⟨b, i, none⟩ = some v)
    (K : wpList P ops Q rest (a.put (some d) (.agg vs.toArray)) X) :
    wpList P ops Q ({ dst := some d, op := .load t (.tmp s), type := ty, pos := pos, after := af, guard := none } :: rest) a X := by
  have hadd : ∀ i, (⟨b, 0, none⟩ : Addr).add i = ⟨b, i, none⟩ := fun i => by unfold Addr.add; split <;> simp_all
  have hL := run_loadCells_list (P := P) X ⟨b, 0, none⟩ vs (fun j v hv => by rw [hadd]; exact k1 j v hv)
  obtain ⟨inf, hi, hsz⟩ := Option.map_eq_some_iff.1 hz
  have hL' : (loadCellsFrom ⟨b, 0, none⟩ 0 vs.length #[]).run P X = .ok vs.toArray X := hL
  have e1 : ∀ ρ : Operand → Value, ρ (.tmp s) = .pointer (some ⟨b, 0, none⟩) → (execOp ρ { dst := some d, op := .load t (.tmp s), type := ty, pos := pos, after := af, guard := none }).run P X = .ok (.value (.agg vs.toArray)) X := fun ρ h => by
    simp [execOp, Instr.loadAt, loadVar, isAgg, sizeOf, typeInfo, underlying, h, ht, hi, hsz, hL', go_sem]
  have w1 := e1 a.eval h1
  clear hL hL' e1 h1
  unfold wpList
  rw [if_pos (by simp [Region.wanted])]
  refine .inl ?_
  unfold Oper.wp
  rw [w1]
  exact K
theorem wpList_storeNew {P : Program} {ops : Array Oper} {rest : List Oper} {s d : Nat} {t ty : TypeId} {pos : String} {af : Array Edge} {Q : Exit → Act → World → Prop} {a : Act} {X : World} {c c' : Array Value}
    (hz : (P.info? t).map (·.size) = some c'.size) (hl : c.size = c'.size) (one : c'.all (·.oneCell') = true)
    (h1 : a.eval (.tmp s) = .pointer (some ⟨X.heap.size, 0, none⟩)) (h2 : a.eval (.tmp d) = .agg c')
    (K : wpList P ops Q rest (a.put none undef) (X.alloc (.cells c' t))) :
    wpList P ops Q ({ dst := none, op := .store t (.tmp s) (.tmp d), type := ty, pos := pos, after := af, guard := none } :: rest) a (X.alloc (.cells c t)) := by
  have hS := run_storeCells_new (P := P) X t c c' hz hl one
  obtain ⟨inf, hi, hsz⟩ := Option.map_eq_some_iff.1 hz
  have e2 : ∀ ρ : Operand → Value, ρ (.tmp s) = .pointer (some ⟨X.heap.size, 0, none⟩) → ρ (.tmp d) = .agg c' → (execOp ρ { dst := none, op := .store t (.tmp s) (.tmp d), type := ty, pos := pos, after := af, guard := none }).run P (X.alloc (.cells c t)) = .ok .skip (X.alloc (.cells c' t)) := fun ρ h h' => by
    have hS' : (storeCells ⟨X.heap.size, 0, none⟩ c'.toList 0).run P (X.alloc (.cells c t)) = .ok () (X.alloc (.cells c' t)) := hS
    simp [execOp, Instr.storeAt, storeVar, sizeOf, typeInfo, h, h', hi, hsz, hS', Value.cells, go_sem]
  have w2 := e2 a.eval h1 h2
  clear hS e2 h1 h2
  unfold wpList
  rw [if_pos (by simp [Region.wanted])]
  refine .inl ?_
  unfold Oper.wp
  rw [w2]
  exact K
theorem operwp_storeNew {P : Program} {next : Act → World → Prop} {s d : Nat} {t ty : TypeId} {pos : String} {af : Array Edge} {Q : Exit → Act → World → Prop} {a : Act} {X : World} {c c' : Array Value}
    (hz : (P.info? t).map (·.size) = some c'.size) (hl : c.size = c'.size) (one : c'.all (·.oneCell') = true)
    (h1 : a.eval (.tmp s) = .pointer (some ⟨X.heap.size, 0, none⟩)) (h2 : a.eval (.tmp d) = .agg c')
    (K : next (a.put none undef) (X.alloc (.cells c' t))) :
    Oper.wp P { dst := none, op := .store t (.tmp s) (.tmp d), type := ty, pos := pos, after := af, guard := none } a (X.alloc (.cells c t)) next Q := by
  have hS := run_storeCells_new (P := P) X t c c' hz hl one
  obtain ⟨inf, hi, hsz⟩ := Option.map_eq_some_iff.1 hz
  have e2 : ∀ ρ : Operand → Value, ρ (.tmp s) = .pointer (some ⟨X.heap.size, 0, none⟩) → ρ (.tmp d) = .agg c' → (execOp ρ { dst := none, op := .store t (.tmp s) (.tmp d), type := ty, pos := pos, after := af, guard := none }).run P (X.alloc (.cells c t)) = .ok .skip (X.alloc (.cells c' t)) := fun ρ h h' => by
    have hS' : (storeCells ⟨X.heap.size, 0, none⟩ c'.toList 0).run P (X.alloc (.cells c t)) = .ok () (X.alloc (.cells c' t)) := hS
    simp [execOp, Instr.storeAt, storeVar, sizeOf, typeInfo, h, h', hi, hsz, hS', Value.cells, go_sem]
  have w2 := e2 a.eval h1 h2
  clear hS e2 h1 h2
  unfold Oper.wp
  rw [w2]
  exact K
theorem operwp_loadAll {P : Program} {next : Act → World → Prop} {s d b : Nat} {t ty : TypeId} {pos : String} {af : Array Edge} {Q : Exit → Act → World → Prop} {a : Act} {X : World} {vs : List Value} {fs : _}
    (ht : P.underlying t = some (.struct fs)) (hz : (P.info? t).map (·.size) = some vs.length)
    (h1 : a.eval (.tmp s) = .pointer (some ⟨b, 0, none⟩))
    (k1 : ∀ i v, vs[i]? = some v → X.cell? ⟨b, i, none⟩ = some v)
    (K : next (a.put (some d) (.agg vs.toArray)) X) :
    Oper.wp P { dst := some d, op := .load t (.tmp s), type := ty, pos := pos, after := af, guard := none } a X next Q := by
  have hadd : ∀ i, (⟨b, 0, none⟩ : Addr).add i = ⟨b, i, none⟩ := fun i => by unfold Addr.add; split <;> simp_all
  have hL := run_loadCells_list (P := P) X ⟨b, 0, none⟩ vs (fun j v hv => by rw [hadd]; exact k1 j v hv)
  obtain ⟨inf, hi, hsz⟩ := Option.map_eq_some_iff.1 hz
  have hL' : (loadCellsFrom ⟨b, 0, none⟩ 0 vs.length #[]).run P X = .ok vs.toArray X := hL
  have e1 : ∀ ρ : Operand → Value, ρ (.tmp s) = .pointer (some ⟨b, 0, none⟩) → (execOp ρ { dst := some d, op := .load t (.tmp s), type := ty, pos := pos, after := af, guard := none }).run P X = .ok (.value (.agg vs.toArray)) X := fun ρ h => by
    simp [execOp, Instr.loadAt, loadVar, isAgg, sizeOf, typeInfo, underlying, h, ht, hi, hsz, hL', go_sem]
  have w1 := e1 a.eval h1
  clear hL hL' e1 h1
  unfold Oper.wp
  rw [w1]
  exact K
theorem loads_of {P : Program} {X : World} {b n : Nat} {vs : List Value} (k1 : ∀ i v, vs[i]? = some v → X.cell? ⟨b, i, none⟩ = some v) (hl : vs.length = n) :
    (loadCellsFrom ⟨b, 0, none⟩ 0 n #[]).run P X = .ok vs.toArray X := by
  have hadd : ∀ i, (⟨b, 0, none⟩ : Addr).add i = ⟨b, i, none⟩ := fun i => by unfold Addr.add; split <;> simp_all
  have hL := run_loadCells_list (P := P) X ⟨b, 0, none⟩ vs (fun j v hv => by rw [hadd]; exact k1 j v hv)
  rw [hl] at hL
  exact hL
theorem range_of {X : World} {b : Nat} {vs : List Value} (k1 : ∀ i v, vs[i]? = some v → X.cell? ⟨b, i, none⟩ = some v) : X.rangeAt b 0 vs := fun j v h => by
  rw [Nat.zero_add]
  exact k1 j v h
theorem loads_sub {P : Program} {X : World} {b off n : Nat} {vs us : List Value} (k1 : ∀ i v, vs[i]? = some v → X.cell? ⟨b, i, none⟩ = some v) (hu : (vs.drop off).take n = us) (hl : us.length = n) :
    (loadCellsFrom ⟨b, off, none⟩ 0 n #[]).run P X = .ok us.toArray X := by
  have hadd : ∀ i, (⟨b, off, none⟩ : Addr).add i = ⟨b, off + i, none⟩ := fun i => by unfold Addr.add; split <;> simp_all
  have hL := run_loadCells_list (P := P) X ⟨b, off, none⟩ us (fun j v hv => by
    rw [hadd]
    refine k1 (off + j) v ?_
    rw [← hu, List.getElem?_take] at hv
    split at hv
    · rw [← List.getElem?_drop]; exact hv
    · cases hv)
  rw [hl] at hL
  exact hL
theorem wpList_storeBox {P : Program} {ops : Array Oper} {rest : List Oper} {s d : Nat} {t ty : TypeId} {pos : String} {af : Array Edge} {Q : Exit → Act → World → Prop} {a : Act} {X : World} {b : Nat} {zs : List Value} {c' : Array Value}
    (hz : (P.info? t).map (·.size) = some c'.size) (hl : zs.length = c'.size) (one : c'.toList.all (·.oneCell') = true)
    (h1 : a.eval (.tmp s) = .pointer (some ⟨b, 0, none⟩)) (h2 : a.eval (.tmp d) = .agg c')
    (k2 : ∀ i v, zs[i]? = some v → X.cell? ⟨b, i, none⟩ = some v) (f2 : ∀ o, X.frozen? ⟨b, o, none⟩ = false)
    (K : wpList P ops Q rest (a.put none undef) (putAll X b 0 c'.toList)) :
    wpList P ops Q ({ dst := none, op := .store t (.tmp s) (.tmp d), type := ty, pos := pos, after := af, guard := none } :: rest) a X := by
  have hS := run_storeCells_cells (P := P) b 0 c'.toList 0 X (fun j hj => by
      obtain ⟨z, hzz⟩ : ∃ z, zs[j]? = some z := ⟨zs[j]'(by rw [hl]; simpa using hj), List.getElem?_eq_getElem _⟩
      have := k2 j z hzz
      simp only [Nat.zero_add]
      rw [this]; rfl) (fun j _ => f2 _) (fun v hv => List.all_eq_true.1 one v hv)
  rw [Nat.add_zero, putAll_eq] at hS
  obtain ⟨inf, hi, hsz⟩ := Option.map_eq_some_iff.1 hz
  have e2 : ∀ ρ : Operand → Value, ρ (.tmp s) = .pointer (some ⟨b, 0, none⟩) → ρ (.tmp d) = .agg c' → (execOp ρ { dst := none, op := .store t (.tmp s) (.tmp d), type := ty, pos := pos, after := af, guard := none }).run P X = .ok .skip (putAll X b 0 c'.toList) := fun ρ h h' => by
    simp [execOp, Instr.storeAt, storeVar, sizeOf, typeInfo, h, h', hi, hsz, hS, Value.cells, go_sem]
  have w2 := e2 a.eval h1 h2
  clear hS e2 h1 h2
  unfold wpList
  rw [if_pos (by simp [Region.wanted])]
  refine .inl ?_
  unfold Oper.wp
  rw [w2]
  exact K
theorem wpList_loadSub {P : Program} {ops : Array Oper} {rest : List Oper} {s d b off : Nat} {t ty : TypeId} {pos : String} {af : Array Edge} {Q : Exit → Act → World → Prop} {a : Act} {X : World} {vs us : List Value} {fs : _}
    (ht : P.underlying t = some (.struct fs)) (hz : (P.info? t).map (·.size) = some us.length)
    (h1 : a.eval (.tmp s) = .pointer (some ⟨b, off, none⟩))
    (k1 : ∀ i v, vs[i]? = some v → X.cell? ⟨b, i, none⟩ = some v)
    (hu : (vs.drop off).take us.length = us)
    (K : wpList P ops Q rest (a.put (some d) (.agg us.toArray)) X) :
    wpList P ops Q ({ dst := some d, op := .load t (.tmp s), type := ty, pos := pos, after := af, guard := none } :: rest) a X := by
  have hL' := loads_sub (P := P) k1 hu rfl
  obtain ⟨inf, hi, hsz⟩ := Option.map_eq_some_iff.1 hz
  have e1 : ∀ ρ : Operand → Value, ρ (.tmp s) = .pointer (some ⟨b, off, none⟩) → (execOp ρ { dst := some d, op := .load t (.tmp s), type := ty, pos := pos, after := af, guard := none }).run P X = .ok (.value (.agg us.toArray)) X := fun ρ h => by
    simp [execOp, Instr.loadAt, loadVar, isAgg, sizeOf, typeInfo, underlying, h, ht, hi, hsz, hL', go_sem]
  have w1 := e1 a.eval h1
  clear hL' e1 h1
  unfold wpList
  rw [if_pos (by simp [Region.wanted])]
  refine .inl ?_
  unfold Oper.wp
  rw [w1]
  exact K
theorem wpList_loadAllG {P : Program} {ops : Array Oper} {rest : List Oper} {s d b : Nat} {t ty : TypeId} {pos : String} {af : Array Edge} {gd : Option (Nat × Bool)} {Q : Exit → Act → World → Prop} {a : Act} {X : World} {vs : List Value} {fs : _}
    (hw : Region.wanted { dst := some d, op := .load t (.tmp s), type := ty, pos := pos, after := af, guard := gd } (yielded ops a.tmps) = true) (ht : P.underlying t = some (.struct fs)) (hz : (P.info? t).map (·.size) = some vs.length)
    (h1 : a.eval (.tmp s) = .pointer (some ⟨b, 0, none⟩))
    (k1 : ∀ i v, vs[i]? = some v → X.cell? ⟨b, i, none⟩ = some v)
    (K : wpList P ops Q rest (a.put (some d) (.agg vs.toArray)) X) :
    wpList P ops Q ({ dst := some d, op := .load t (.tmp s), type := ty, pos := pos, after := af, guard := gd } :: rest) a X := by
  have hadd : ∀ i, (⟨b, 0, none⟩ : Addr).add i = ⟨b, i, none⟩ := fun i => by unfold Addr.add; split <;> simp_all
  have hL := run_loadCells_list (P := P) X ⟨b, 0, none⟩ vs (fun j v hv => by rw [hadd]; exact k1 j v hv)
  obtain ⟨inf, hi, hsz⟩ := Option.map_eq_some_iff.1 hz
  have hL' : (loadCellsFrom ⟨b, 0, none⟩ 0 vs.length #[]).run P X = .ok vs.toArray X := hL
  have e1 : ∀ ρ : Operand → Value, ρ (.tmp s) = .pointer (some ⟨b, 0, none⟩) → (execOp ρ { dst := some d, op := .load t (.tmp s), type := ty, pos := pos, after := af, guard := gd }).run P X = .ok (.value (.agg vs.toArray)) X := fun ρ h => by
    simp [execOp, Instr.loadAt, loadVar, isAgg, sizeOf, typeInfo, underlying, h, ht, hi, hsz, hL', go_sem]
  have w1 := e1 a.eval h1
  clear hL hL' e1 h1
  unfold wpList
  rw [if_pos hw]
  refine .inl ?_
  unfold Oper.wp
  rw [w1]
  exact K
end Go.Proofs.YtkchefbhpbpanaaGreatDoor
/-
  Flights and answers that hold one, loaded and stored at once.
-/
namespace Go.Proofs.YtkchefbhpbpanaaGreatDoor
open Go.ChangeShapes Go.WideShapes Go.ChangeAt Go.RowKit
theorem flI_size : (Tryz.prog.info? 36).map (·.size) = some 11 := by kernel_rfl
theorem flI_load {ops : Array Oper} {rest : List Oper} {s d b : Nat} {ty : TypeId} {pos : String} {af : Array Edge} {Q : Exit → Act → World → Prop} {a : Act} {X : World} {vs : List Value} (hl : vs.length = 11)
    (h1 : a.eval (.tmp s) = .pointer (some ⟨b, 0, none⟩)) (k1 : ∀ i v, vs[i]? = some v → X.cell? ⟨b, i, none⟩ = some v)
    (K : wpList Tryz.prog ops Q rest (a.put (some d) (.agg vs.toArray)) X) :
    wpList Tryz.prog ops Q ({ dst := some d, op := .load 36 (.tmp s), type := ty, pos := pos, after := af, guard := none } :: rest) a X :=
  wpList_loadAll Tryz.underlying36 (by rw [hl]; exact flI_size) h1 k1 K
theorem flI_loadW {next : Act → World → Prop} {s d b : Nat} {ty : TypeId} {pos : String} {af : Array Edge} {Q : Exit → Act → World → Prop} {a : Act} {X : World} {vs : List Value} (hl : vs.length = 11)
    (h1 : a.eval (.tmp s) = .pointer (some ⟨b, 0, none⟩)) (k1 : ∀ i v, vs[i]? = some v → X.cell? ⟨b, i, none⟩ = some v)
    (K : next (a.put (some d) (.agg vs.toArray)) X) :
    Oper.wp Tryz.prog { dst := some d, op := .load 36 (.tmp s), type := ty, pos := pos, after := af, guard := none } a X next Q :=
  operwp_loadAll Tryz.underlying36 (by rw [hl]; exact flI_size) h1 k1 K
theorem flI_loadG {ops : Array Oper} {rest : List Oper} {s d b : Nat} {ty : TypeId} {pos : String} {af : Array Edge} {gd : Option (Nat × Bool)} {Q : Exit → Act → World → Prop} {a : Act} {X : World} {vs : List Value} (hl : vs.length = 11)
    (h1 : a.eval (.tmp s) = .pointer (some ⟨b, 0, none⟩)) (hw : Region.wanted { dst := some d, op := .load 36 (.tmp s), type := ty, pos := pos, after := af, guard := gd } (yielded ops a.tmps) = true) (k1 : ∀ i v, vs[i]? = some v → X.cell? ⟨b, i, none⟩ = some v)
    (K : wpList Tryz.prog ops Q rest (a.put (some d) (.agg vs.toArray)) X) :
    wpList Tryz.prog ops Q ({ dst := some d, op := .load 36 (.tmp s), type := ty, pos := pos, after := af, guard := gd } :: rest) a X :=
  wpList_loadAllG hw Tryz.underlying36 (by rw [hl]; exact flI_size) h1 k1 K
theorem flI_loadAt {ops : Array Oper} {rest : List Oper} {s d b off : Nat} {ty : TypeId} {pos : String} {af : Array Edge} {Q : Exit → Act → World → Prop} {a : Act} {X : World} {vs us : List Value} (hl : us.length = 11)
    (h1 : a.eval (.tmp s) = .pointer (some ⟨b, off, none⟩)) (hu : (vs.drop off).take us.length = us) (k1 : ∀ i v, vs[i]? = some v → X.cell? ⟨b, i, none⟩ = some v)
    (K : wpList Tryz.prog ops Q rest (a.put (some d) (.agg us.toArray)) X) :
    wpList Tryz.prog ops Q ({ dst := some d, op := .load 36 (.tmp s), type := ty, pos := pos, after := af, guard := none } :: rest) a X :=
  wpList_loadSub Tryz.underlying36 (by rw [hl]; exact flI_size) h1 k1 hu K
theorem flI_store {next : Act → World → Prop} {s d : Nat} {ty : TypeId} {pos : String} {af : Array Edge} {Q : Exit → Act → World → Prop} {a : Act} {X : World} {c c' : Array Value} (hl : c'.size = 11) (hl2 : c.size = 11) (one : c'.toList.all (·.oneCell') = true)
    (h1 : a.eval (.tmp s) = .pointer (some ⟨X.heap.size, 0, none⟩)) (h2 : a.eval (.tmp d) = .agg c')
    (K : next (a.put none undef) (X.alloc (.cells c' 36))) :
    Oper.wp Tryz.prog { dst := none, op := .store 36 (.tmp s) (.tmp d), type := ty, pos := pos, after := af, guard := none } a (X.alloc (.cells c 36)) next Q :=
  operwp_storeNew (by rw [hl]; exact flI_size) (by rw [hl, hl2]) (by rw [← Array.all_toList]; exact one) h1 h2 K
theorem flI_put {ops : Array Oper} {rest : List Oper} {s d : Nat} {ty : TypeId} {pos : String} {af : Array Edge} {Q : Exit → Act → World → Prop} {a : Act} {X : World} {b : Nat} {zs vs : List Value} (hl : vs.length = 11) (hl2 : zs.length = 11) (one : vs.all (·.oneCell') = true)
    (h1 : a.eval (.tmp s) = .pointer (some ⟨b, 0, none⟩)) (h2 : a.eval (.tmp d) = .agg vs.toArray)
    (k2 : ∀ i v, zs[i]? = some v → X.cell? ⟨b, i, none⟩ = some v) (f2 : ∀ o, X.frozen? ⟨b, o, none⟩ = false)
    (K : wpList Tryz.prog ops Q rest (a.put none undef) (putAll X b 0 vs)) :
    wpList Tryz.prog ops Q ({ dst := none, op := .store 36 (.tmp s) (.tmp d), type := ty, pos := pos, after := af, guard := none } :: rest) a X :=
  wpList_storeBox (c' := vs.toArray) (by rw [List.size_toArray, hl]; exact flI_size) (by rw [List.size_toArray, hl, hl2]) one h1 h2 k2 f2 K
theorem flL_size : (Tryz.prog.info? 27).map (·.size) = some 11 := by kernel_rfl
theorem flL_load {ops : Array Oper} {rest : List Oper} {s d b : Nat} {ty : TypeId} {pos : String} {af : Array Edge} {Q : Exit → Act → World → Prop} {a : Act} {X : World} {vs : List Value} (hl : vs.length = 11)
    (h1 : a.eval (.tmp s) = .pointer (some ⟨b, 0, none⟩)) (k1 : ∀ i v, vs[i]? = some v → X.cell? ⟨b, i, none⟩ = some v)
    (K : wpList Tryz.prog ops Q rest (a.put (some d) (.agg vs.toArray)) X) :
    wpList Tryz.prog ops Q ({ dst := some d, op := .load 27 (.tmp s), type := ty, pos := pos, after := af, guard := none } :: rest) a X :=
  wpList_loadAll Tryz.underlying27 (by rw [hl]; exact flL_size) h1 k1 K
theorem flL_loadW {next : Act → World → Prop} {s d b : Nat} {ty : TypeId} {pos : String} {af : Array Edge} {Q : Exit → Act → World → Prop} {a : Act} {X : World} {vs : List Value} (hl : vs.length = 11)
    (h1 : a.eval (.tmp s) = .pointer (some ⟨b, 0, none⟩)) (k1 : ∀ i v, vs[i]? = some v → X.cell? ⟨b, i, none⟩ = some v)
    (K : next (a.put (some d) (.agg vs.toArray)) X) :
    Oper.wp Tryz.prog { dst := some d, op := .load 27 (.tmp s), type := ty, pos := pos, after := af, guard := none } a X next Q :=
  operwp_loadAll Tryz.underlying27 (by rw [hl]; exact flL_size) h1 k1 K
theorem flL_loadG {ops : Array Oper} {rest : List Oper} {s d b : Nat} {ty : TypeId} {pos : String} {af : Array Edge} {gd : Option (Nat × Bool)} {Q : Exit → Act → World → Prop} {a : Act} {X : World} {vs : List Value} (hl : vs.length = 11)
    (h1 : a.eval (.tmp s) = .pointer (some ⟨b, 0, none⟩)) (hw : Region.wanted { dst := some d, op := .load 27 (.tmp s), type := ty, pos := pos, after := af, guard := gd } (yielded ops a.tmps) = true) (k1 : ∀ i v, vs[i]? = some v → X.cell? ⟨b, i, none⟩ = some v)
    (K : wpList Tryz.prog ops Q rest (a.put (some d) (.agg vs.toArray)) X) :
    wpList Tryz.prog ops Q ({ dst := some d, op := .load 27 (.tmp s), type := ty, pos := pos, after := af, guard := gd } :: rest) a X :=
  wpList_loadAllG hw Tryz.underlying27 (by rw [hl]; exact flL_size) h1 k1 K
theorem flL_loadAt {ops : Array Oper} {rest : List Oper} {s d b off : Nat} {ty : TypeId} {pos : String} {af : Array Edge} {Q : Exit → Act → World → Prop} {a : Act} {X : World} {vs us : List Value} (hl : us.length = 11)
    (h1 : a.eval (.tmp s) = .pointer (some ⟨b, off, none⟩)) (hu : (vs.drop off).take us.length = us) (k1 : ∀ i v, vs[i]? = some v → X.cell? ⟨b, i, none⟩ = some v)
    (K : wpList Tryz.prog ops Q rest (a.put (some d) (.agg us.toArray)) X) :
    wpList Tryz.prog ops Q ({ dst := some d, op := .load 27 (.tmp s), type := ty, pos := pos, after := af, guard := none } :: rest) a X :=
  wpList_loadSub Tryz.underlying27 (by rw [hl]; exact flL_size) h1 k1 hu K
theorem wrR_size : (Tryz.prog.info? 49).map (·.size) = some 13 := by kernel_rfl
theorem wrR_load {ops : Array Oper} {rest : List Oper} {s d b : Nat} {ty : TypeId} {pos : String} {af : Array Edge} {Q : Exit → Act → World → Prop} {a : Act} {X : World} {vs : List Value} (hl : vs.length = 13)
    (h1 : a.eval (.tmp s) = .pointer (some ⟨b, 0, none⟩)) (k1 : ∀ i v, vs[i]? = some v → X.cell? ⟨b, i, none⟩ = some v)
    (K : wpList Tryz.prog ops Q rest (a.put (some d) (.agg vs.toArray)) X) :
    wpList Tryz.prog ops Q ({ dst := some d, op := .load 49 (.tmp s), type := ty, pos := pos, after := af, guard := none } :: rest) a X :=
  wpList_loadAll Tryz.underlying49 (by rw [hl]; exact wrR_size) h1 k1 K
theorem wrR_loadW {next : Act → World → Prop} {s d b : Nat} {ty : TypeId} {pos : String} {af : Array Edge} {Q : Exit → Act → World → Prop} {a : Act} {X : World} {vs : List Value} (hl : vs.length = 13)
    (h1 : a.eval (.tmp s) = .pointer (some ⟨b, 0, none⟩)) (k1 : ∀ i v, vs[i]? = some v → X.cell? ⟨b, i, none⟩ = some v)
    (K : next (a.put (some d) (.agg vs.toArray)) X) :
    Oper.wp Tryz.prog { dst := some d, op := .load 49 (.tmp s), type := ty, pos := pos, after := af, guard := none } a X next Q :=
  operwp_loadAll Tryz.underlying49 (by rw [hl]; exact wrR_size) h1 k1 K
theorem wrR_loadG {ops : Array Oper} {rest : List Oper} {s d b : Nat} {ty : TypeId} {pos : String} {af : Array Edge} {gd : Option (Nat × Bool)} {Q : Exit → Act → World → Prop} {a : Act} {X : World} {vs : List Value} (hl : vs.length = 13)
    (h1 : a.eval (.tmp s) = .pointer (some ⟨b, 0, none⟩)) (hw : Region.wanted { dst := some d, op := .load 49 (.tmp s), type := ty, pos := pos, after := af, guard := gd } (yielded ops a.tmps) = true) (k1 : ∀ i v, vs[i]? = some v → X.cell? ⟨b, i, none⟩ = some v)
    (K : wpList Tryz.prog ops Q rest (a.put (some d) (.agg vs.toArray)) X) :
    wpList Tryz.prog ops Q ({ dst := some d, op := .load 49 (.tmp s), type := ty, pos := pos, after := af, guard := gd } :: rest) a X :=
  wpList_loadAllG hw Tryz.underlying49 (by rw [hl]; exact wrR_size) h1 k1 K
theorem wrR_loadAt {ops : Array Oper} {rest : List Oper} {s d b off : Nat} {ty : TypeId} {pos : String} {af : Array Edge} {Q : Exit → Act → World → Prop} {a : Act} {X : World} {vs us : List Value} (hl : us.length = 13)
    (h1 : a.eval (.tmp s) = .pointer (some ⟨b, off, none⟩)) (hu : (vs.drop off).take us.length = us) (k1 : ∀ i v, vs[i]? = some v → X.cell? ⟨b, i, none⟩ = some v)
    (K : wpList Tryz.prog ops Q rest (a.put (some d) (.agg us.toArray)) X) :
    wpList Tryz.prog ops Q ({ dst := some d, op := .load 49 (.tmp s), type := ty, pos := pos, after := af, guard := none } :: rest) a X :=
  wpList_loadSub Tryz.underlying49 (by rw [hl]; exact wrR_size) h1 k1 hu K
theorem wrR_store {next : Act → World → Prop} {s d : Nat} {ty : TypeId} {pos : String} {af : Array Edge} {Q : Exit → Act → World → Prop} {a : Act} {X : World} {c c' : Array Value} (hl : c'.size = 13) (hl2 : c.size = 13) (one : c'.toList.all (·.oneCell') = true)
    (h1 : a.eval (.tmp s) = .pointer (some ⟨X.heap.size, 0, none⟩)) (h2 : a.eval (.tmp d) = .agg c')
    (K : next (a.put none undef) (X.alloc (.cells c' 49))) :
    Oper.wp Tryz.prog { dst := none, op := .store 49 (.tmp s) (.tmp d), type := ty, pos := pos, after := af, guard := none } a (X.alloc (.cells c 49)) next Q :=
  operwp_storeNew (by rw [hl]; exact wrR_size) (by rw [hl, hl2]) (by rw [← Array.all_toList]; exact one) h1 h2 K
theorem wrR_put {ops : Array Oper} {rest : List Oper} {s d : Nat} {ty : TypeId} {pos : String} {af : Array Edge} {Q : Exit → Act → World → Prop} {a : Act} {X : World} {b : Nat} {zs vs : List Value} (hl : vs.length = 13) (hl2 : zs.length = 13) (one : vs.all (·.oneCell') = true)
    (h1 : a.eval (.tmp s) = .pointer (some ⟨b, 0, none⟩)) (h2 : a.eval (.tmp d) = .agg vs.toArray)
    (k2 : ∀ i v, zs[i]? = some v → X.cell? ⟨b, i, none⟩ = some v) (f2 : ∀ o, X.frozen? ⟨b, o, none⟩ = false)
    (K : wpList Tryz.prog ops Q rest (a.put none undef) (putAll X b 0 vs)) :
    wpList Tryz.prog ops Q ({ dst := none, op := .store 49 (.tmp s) (.tmp d), type := ty, pos := pos, after := af, guard := none } :: rest) a X :=
  wpList_storeBox (c' := vs.toArray) (by rw [List.size_toArray, hl]; exact wrR_size) (by rw [List.size_toArray, hl, hl2]) one h1 h2 k2 f2 K
theorem flR_size : (Tryz.prog.info? 38).map (·.size) = some 12 := by kernel_rfl
theorem flR_load {ops : Array Oper} {rest : List Oper} {s d b : Nat} {ty : TypeId} {pos : String} {af : Array Edge} {Q : Exit → Act → World → Prop} {a : Act} {X : World} {vs : List Value} (hl : vs.length = 12)
    (h1 : a.eval (.tmp s) = .pointer (some ⟨b, 0, none⟩)) (k1 : ∀ i v, vs[i]? = some v → X.cell? ⟨b, i, none⟩ = some v)
    (K : wpList Tryz.prog ops Q rest (a.put (some d) (.agg vs.toArray)) X) :
    wpList Tryz.prog ops Q ({ dst := some d, op := .load 38 (.tmp s), type := ty, pos := pos, after := af, guard := none } :: rest) a X :=
  wpList_loadAll Tryz.underlying38 (by rw [hl]; exact flR_size) h1 k1 K
theorem flR_loadW {next : Act → World → Prop} {s d b : Nat} {ty : TypeId} {pos : String} {af : Array Edge} {Q : Exit → Act → World → Prop} {a : Act} {X : World} {vs : List Value} (hl : vs.length = 12)
    (h1 : a.eval (.tmp s) = .pointer (some ⟨b, 0, none⟩)) (k1 : ∀ i v, vs[i]? = some v → X.cell? ⟨b, i, none⟩ = some v)
    (K : next (a.put (some d) (.agg vs.toArray)) X) :
    Oper.wp Tryz.prog { dst := some d, op := .load 38 (.tmp s), type := ty, pos := pos, after := af, guard := none } a X next Q :=
  operwp_loadAll Tryz.underlying38 (by rw [hl]; exact flR_size) h1 k1 K
theorem flR_loadG {ops : Array Oper} {rest : List Oper} {s d b : Nat} {ty : TypeId} {pos : String} {af : Array Edge} {gd : Option (Nat × Bool)} {Q : Exit → Act → World → Prop} {a : Act} {X : World} {vs : List Value} (hl : vs.length = 12)
    (h1 : a.eval (.tmp s) = .pointer (some ⟨b, 0, none⟩)) (hw : Region.wanted { dst := some d, op := .load 38 (.tmp s), type := ty, pos := pos, after := af, guard := gd } (yielded ops a.tmps) = true) (k1 : ∀ i v, vs[i]? = some v → X.cell? ⟨b, i, none⟩ = some v)
    (K : wpList Tryz.prog ops Q rest (a.put (some d) (.agg vs.toArray)) X) :
    wpList Tryz.prog ops Q ({ dst := some d, op := .load 38 (.tmp s), type := ty, pos := pos, after := af, guard := gd } :: rest) a X :=
  wpList_loadAllG hw Tryz.underlying38 (by rw [hl]; exact flR_size) h1 k1 K
theorem flR_loadAt {ops : Array Oper} {rest : List Oper} {s d b off : Nat} {ty : TypeId} {pos : String} {af : Array Edge} {Q : Exit → Act → World → Prop} {a : Act} {X : World} {vs us : List Value} (hl : us.length = 12)
    (h1 : a.eval (.tmp s) = .pointer (some ⟨b, off, none⟩)) (hu : (vs.drop off).take us.length = us) (k1 : ∀ i v, vs[i]? = some v → X.cell? ⟨b, i, none⟩ = some v)
    (K : wpList Tryz.prog ops Q rest (a.put (some d) (.agg us.toArray)) X) :
    wpList Tryz.prog ops Q ({ dst := some d, op := .load 38 (.tmp s), type := ty, pos := pos, after := af, guard := none } :: rest) a X :=
  wpList_loadSub Tryz.underlying38 (by rw [hl]; exact flR_size) h1 k1 hu K
theorem flR_store {next : Act → World → Prop} {s d : Nat} {ty : TypeId} {pos : String} {af : Array Edge} {Q : Exit → Act → World → Prop} {a : Act} {X : World} {c c' : Array Value} (hl : c'.size = 12) (hl2 : c.size = 12) (one : c'.toList.all (·.oneCell') = true)
    (h1 : a.eval (.tmp s) = .pointer (some ⟨X.heap.size, 0, none⟩)) (h2 : a.eval (.tmp d) = .agg c')
    (K : next (a.put none undef) (X.alloc (.cells c' 38))) :
    Oper.wp Tryz.prog { dst := none, op := .store 38 (.tmp s) (.tmp d), type := ty, pos := pos, after := af, guard := none } a (X.alloc (.cells c 38)) next Q :=
  operwp_storeNew (by rw [hl]; exact flR_size) (by rw [hl, hl2]) (by rw [← Array.all_toList]; exact one) h1 h2 K
theorem flR_put {ops : Array Oper} {rest : List Oper} {s d : Nat} {ty : TypeId} {pos : String} {af : Array Edge} {Q : Exit → Act → World → Prop} {a : Act} {X : World} {b : Nat} {zs vs : List Value} (hl : vs.length = 12) (hl2 : zs.length = 12) (one : vs.all (·.oneCell') = true)
    (h1 : a.eval (.tmp s) = .pointer (some ⟨b, 0, none⟩)) (h2 : a.eval (.tmp d) = .agg vs.toArray)
    (k2 : ∀ i v, zs[i]? = some v → X.cell? ⟨b, i, none⟩ = some v) (f2 : ∀ o, X.frozen? ⟨b, o, none⟩ = false)
    (K : wpList Tryz.prog ops Q rest (a.put none undef) (putAll X b 0 vs)) :
    wpList Tryz.prog ops Q ({ dst := none, op := .store 38 (.tmp s) (.tmp d), type := ty, pos := pos, after := af, guard := none } :: rest) a X :=
  wpList_storeBox (c' := vs.toArray) (by rw [List.size_toArray, hl]; exact flR_size) (by rw [List.size_toArray, hl, hl2]) one h1 h2 k2 f2 K
end Go.Proofs.YtkchefbhpbpanaaGreatDoor
/-
  The law of ExpireWaiters, over contracts.
-/
namespace Go.Proofs.YtkchefbhpbpanaaGreatDoor
open Go.ChangeShapes Go.WideShapes Go.ChangeAt Go.RowKit
set_option linter.unusedSimpArgs false in
set_option maxRecDepth 100000 in
set_option maxHeartbeats 32000000 in
theorem walk_Exp (w : World) (fid : Int) (fky : ByteArray) (fbk fot : Bool) (fdu : Int) (fdm : Bool) (fm fh fp : ByteArray) (fa : Option Addr) (fn fc : Nat) (ua : Option Addr) (un uc : Nat) (now : Int) (rc qid : Int) (qky : ByteArray) (qbk qot : Bool) (qdu : Int) (qdm : Bool) (qmm qhh qpp : ByteArray) (z1 : Int) (CA1 : Nat → Nat → Nat → Nat → World → Prop) (CR MR : Option Addr → Nat → Nat → Option Addr → Nat → Nat → Option Addr → Nat → Nat → Nat → Nat → World → Prop) (k1 q : Int) (HZ1 : Hid (∀ X, Below w.heap.size w X → Calls Tryz.prog 7 #[.agg #[.int .i64 fid, .string fky, .bool fbk, .bool fot, .int .i64 fdu, .bool fdm, .string fm, .string fh, .string fp, .slice fa fn fc, .slice ua un uc], .int .i64 1048576] X fun e w' => e = .returned (.int .i64 z1) ∧ Below X.heap.size X w'))
    (HT1 : Hid (¬ z1 < 0 → ∀ X, Below w.heap.size w X → Calls Tryz.prog 9 #[.agg #[.int .i64 fid, .string fky, .bool fbk, .bool fot, .int .i64 fdu, .bool fdm, .string fm, .string fh, .string fp, .slice fa fn fc, .slice ua un uc]] X fun e w' => (∃ (K1 : Nat) (D1 : Nat), e = .returned (.agg #[.int .i64 fid, .string fky, .bool fbk, .bool fot, .int .i64 fdu, .bool fdm, .string fm, .string fh, .string fp, .slice (some ⟨K1, 0, none⟩) fn fn, .slice (some ⟨D1, 0, none⟩) un un]) ∧ At X.heap.size w'.heap.size (CA1 K1 D1) w') ∧ Below X.heap.size X w'))
    (HQ1 : Hid (¬ z1 < 0 → ∀ X la ha lb hb (K1x : Nat) (D1x : Nat) (K1y : Nat) (D1y : Nat), At la ha (CA1 K1x D1x) X → At lb hb (CA1 K1y D1y) X → Calls Tryz.prog 13 #[.agg #[.int .i64 fid, .string fky, .bool fbk, .bool fot, .int .i64 fdu, .bool fdm, .string fm, .string fh, .string fp, .slice (some ⟨K1x, 0, none⟩) fn fn, .slice (some ⟨D1x, 0, none⟩) un un], .agg #[.int .i64 fid, .string fky, .bool fbk, .bool fot, .int .i64 fdu, .bool fdm, .string fm, .string fh, .string fp, .slice (some ⟨K1y, 0, none⟩) fn fn, .slice (some ⟨D1y, 0, none⟩) un un]] X fun e w' => e = .returned (.bool true) ∧ Below X.heap.size X w'))
    (HM1 : Hid (¬ z1 < 0 → ∀ X l h (K1 : Nat) (D1 : Nat), At l h (CA1 K1 D1) X → w.heap.size ≤ l → Calls Tryz.prog 14 #[.agg #[.int .i64 fid, .string fky, .bool fbk, .bool fot, .int .i64 fdu, .bool fdm, .string fm, .string fh, .string fp, .slice (some ⟨K1, 0, none⟩) fn fn, .slice (some ⟨D1, 0, none⟩) un un], .int .i64 1] X fun e w' => e = .returned (.int .i64 k1) ∧ Wi l h X w' ∧ Below w.heap.size X w'))
    (HF : Hid (¬ z1 < 0 → ∀ X l1 h1 (K1 : Nat) (D1 : Nat), Below w.heap.size w X → At l1 h1 (CA1 K1 D1) X → Calls Tryz.prog 17 #[.agg #[.int .i64 fid, .string fky, .bool fbk, .bool fot, .int .i64 fdu, .bool fdm, .string fm, .string fh, .string fp, .slice (some ⟨K1, 0, none⟩) fn fn, .slice (some ⟨D1, 0, none⟩) un un], .int .i64 now] X fun e w' => (∃ (rar : Option Addr) (rnr : Nat) (rkr : Nat) (war : Option Addr) (wnr : Nat) (wkr : Nat) (gar : Option Addr) (gnr : Nat) (gkr : Nat), e = .returned (.agg #[.int .i64 rc, .int .i64 qid, .string qky, .bool qbk, .bool qot, .int .i64 qdu, .bool qdm, .string qmm, .string qhh, .string qpp, .slice rar rnr rkr, .slice war wnr wkr, .slice gar gnr gkr]) ∧ At X.heap.size w'.heap.size (CR rar rnr rkr war wnr wkr gar gnr gkr) w') ∧ Below X.heap.size X w'))
    (HG : Hid (¬ z1 < 0 → ∀ X l1 h1 (K1 : Nat) (D1 : Nat), Below w.heap.size w X → At l1 h1 (CA1 K1 D1) X → Calls Tryz.prog 18 #[.agg #[.int .i64 fid, .string fky, .bool fbk, .bool fot, .int .i64 fdu, .bool fdm, .string fm, .string fh, .string fp, .slice (some ⟨K1, 0, none⟩) fn fn, .slice (some ⟨D1, 0, none⟩) un un], .int .i64 now] X fun e w' => (∃ (rar : Option Addr) (rnr : Nat) (rkr : Nat) (war : Option Addr) (wnr : Nat) (wkr : Nat) (gar : Option Addr) (gnr : Nat) (gkr : Nat), e = .returned (.agg #[.int .i64 rc, .int .i64 qid, .string qky, .bool qbk, .bool qot, .int .i64 qdu, .bool qdm, .string qmm, .string qhh, .string qpp, .slice rar rnr rkr, .slice war wnr wkr, .slice gar gnr gkr]) ∧ At X.heap.size w'.heap.size (CR rar rnr rkr war wnr wkr gar gnr gkr) w') ∧ Below X.heap.size X w'))
    (HEQ : Hid (¬ z1 < 0 → ∀ X la ha lb hb (rax : Option Addr) (rnx : Nat) (rkx : Nat) (wax : Option Addr) (wnx : Nat) (wkx : Nat) (gax : Option Addr) (gnx : Nat) (gkx : Nat) (ray : Option Addr) (rny : Nat) (rky : Nat) (way : Option Addr) (wny : Nat) (wky : Nat) (gay : Option Addr) (gny : Nat) (gky : Nat), At la ha (CR rax rnx rkx wax wnx wkx gax gnx gkx) X → At lb hb (CR ray rny rky way wny wky gay gny gky) X → Calls Tryz.prog 19 #[.agg #[.int .i64 rc, .int .i64 qid, .string qky, .bool qbk, .bool qot, .int .i64 qdu, .bool qdm, .string qmm, .string qhh, .string qpp, .slice rax rnx rkx, .slice wax wnx wkx, .slice gax gnx gkx], .agg #[.int .i64 rc, .int .i64 qid, .string qky, .bool qbk, .bool qot, .int .i64 qdu, .bool qdm, .string qmm, .string qhh, .string qpp, .slice ray rny rky, .slice way wny wky, .slice gay gny gky]] X fun e w' => e = .returned (.bool true) ∧ Below X.heap.size X w'))
    (HMR : Hid (¬ z1 < 0 → ∀ X l h (rar : Option Addr) (rnr : Nat) (rkr : Nat) (war : Option Addr) (wnr : Nat) (wkr : Nat) (gar : Option Addr) (gnr : Nat) (gkr : Nat), Below w.heap.size w X → At l h (CR rar rnr rkr war wnr wkr gar gnr gkr) X → w.heap.size ≤ l → Calls Tryz.prog 20 #[.agg #[.int .i64 rc, .int .i64 qid, .string qky, .bool qbk, .bool qot, .int .i64 qdu, .bool qdm, .string qmm, .string qhh, .string qpp, .slice rar rnr rkr, .slice war wnr wkr, .slice gar gnr gkr], .int .i64 1] X fun e w' => e = .returned (.int .i64 q) ∧ At l h (MR rar rnr rkr war wnr wkr gar gnr gkr) w' ∧ Wi l h X w' ∧ Below w.heap.size X w'))
    (HHR : Hid (¬ z1 < 0 → ∀ X l h (rar : Option Addr) (rnr : Nat) (rkr : Nat) (war : Option Addr) (wnr : Nat) (wkr : Nat) (gar : Option Addr) (gnr : Nat) (gkr : Nat), At l h (MR rar rnr rkr war wnr wkr gar gnr gkr) X → Calls Tryz.prog 21 #[.agg #[.int .i64 rc, .int .i64 qid, .string qky, .bool qbk, .bool qot, .int .i64 qdu, .bool qdm, .string qmm, .string qhh, .string qpp, .slice rar rnr rkr, .slice war wnr wkr, .slice gar gnr gkr], .int .i64 1] X fun e w' => e = .returned (.int .i64 q) ∧ Below X.heap.size X w'))
    (hk0 : ¬ k1 < 0) (hq0 : ¬ q < 0) :
    Calls Tryz.prog 4 #[.agg #[.int .i64 fid, .string fky, .bool fbk, .bool fot, .int .i64 fdu, .bool fdm, .string fm, .string fh, .string fp, .slice fa fn fc, .slice ua un uc], .int .i64 now] w fun e w' => e = .returned (.bool true) ∧ Below w.heap.size w w' := by
  obtain ⟨W, hW⟩ : ∃ W, W = (w.alloc (.cells #[.int .i64 fid, .string fky, .bool fbk, .bool fot, .int .i64 fdu, .bool fdm, .string fm, .string fh, .string fp, .slice fa fn fc, .slice ua un uc] 27)) := ⟨_, rfl⟩
  have HW : Hid (W = (w.alloc (.cells #[.int .i64 fid, .string fky, .bool fbk, .bool fot, .int .i64 fdu, .bool fdm, .string fm, .string fh, .string fp, .slice fa fn fc, .slice ua un uc] 27))) := hW
  have KW : Hid (Below w.heap.size w W) := by rw [hW]; exact ((Below.refl _ _).alloc (Nat.le_refl _) _)
  have SW : Hid (w.heap.size + 1 ≤ W.heap.size) := by rw [hW]; show _ ≤ _; simp
  have FA1_0 : Hid (At w.heap.size (w.heap.size + 1) (Bx w.heap.size [.int .i64 fid, .string fky, .bool fbk, .bool fot, .int .i64 fdu, .bool fdm, .string fm, .string fh, .string fp, .slice fa fn fc, .slice ua un uc]) W) := by rw [hW]; exact Bx.newAt rfl [.int .i64 fid, .string fky, .bool fbk, .bool fot, .int .i64 fdu, .bool fdm, .string fm, .string fh, .string fp, .slice fa fn fc, .slice ua un uc] _
  clear hW
  go_enter Tryz.func4, Tryz.ntmps4
  go_upto_region 2 with fail
  rw [← HW.out]
  clear HW
  have LFA1_0 := hidL FA1_0.out.val.1
  go_wp2_with (first | ((with_reducible refine flL_load (b := w.heap.size) (vs := [.int .i64 fid, .string fky, .bool fbk, .bool fot, .int .i64 fdu, .bool fdm, .string fm, .string fh, .string fp, .slice fa fn fc, .slice ua un uc]) ?_ ?_ LFA1_0.out ?_); exact rfl; exact rfl))
  clear LFA1_0
  refine (HZ1.out  _ KW.out).mono ?_
  rintro e0 w1 ⟨rfl, hb⟩
  have K2 : Hid (Below w.heap.size w w1) := KW.out.trans (hb.mono KW.out.size)
  have F3 : Hid (At w.heap.size (w.heap.size + 1) (Bx w.heap.size [.int .i64 fid, .string fky, .bool fbk, .bool fot, .int .i64 fdu, .bool fdm, .string fm, .string fh, .string fp, .slice fa fn fc, .slice ua un uc]) w1) := FA1_0.out.keep hb
  clear KW FA1_0 hb
  clear HZ1
  by_cases cz1 : z1 < 0
  · clear HT1 HQ1 HM1 HF HG HEQ HMR HHR F3 SW
    go_wp2_with fail
    go_ret
    exact ⟨rfl, K2.out⟩
  replace HT1 := hidL (HT1.out (by omega))
  replace HQ1 := hidL (HQ1.out (by omega))
  replace HM1 := hidL (HM1.out (by omega))
  replace HF := hidL (HF.out (by omega))
  replace HG := hidL (HG.out (by omega))
  replace HEQ := hidL (HEQ.out (by omega))
  replace HMR := hidL (HMR.out (by omega))
  replace HHR := hidL (HHR.out (by omega))
  have LF3 := hidL F3.out.val.1
  go_wp2_with (first | ((with_reducible refine flL_load (b := w.heap.size) (vs := [.int .i64 fid, .string fky, .bool fbk, .bool fot, .int .i64 fdu, .bool fdm, .string fm, .string fh, .string fp, .slice fa fn fc, .slice ua un uc]) ?_ ?_ LF3.out ?_); exact rfl; exact rfl))
  clear LF3
  refine (HT1.out _ K2.out).mono ?_
  rintro e0 w4 ⟨⟨K1s, D1s, rfl, ca⟩, hb⟩
  have K5 : Hid (Below w.heap.size w w4) := K2.out.trans (hb.mono K2.out.size)
  have F6 : Hid (At w.heap.size (w.heap.size + 1) (Bx w.heap.size [.int .i64 fid, .string fky, .bool fbk, .bool fot, .int .i64 fdu, .bool fdm, .string fm, .string fh, .string fp, .slice fa fn fc, .slice ua un uc]) w4) := F3.out.keep hb
  clear K2 F3 hb
  have CA_s : Hid (At w1.heap.size w4.heap.size (CA1 K1s D1s) w4) := ca
  clear ca
  go_wp2_with fail
  refine (HF.out _ _ _ _ _ K5.out CA_s.out).mono ?_
  rintro e0 w7 ⟨⟨ras, rns, rks, was, wns, wks, gas, gns, gks, rfl, cr⟩, hb⟩
  have K8 : Hid (Below w.heap.size w w7) := K5.out.trans (hb.mono K5.out.size)
  have F9 : Hid (At w.heap.size (w.heap.size + 1) (Bx w.heap.size [.int .i64 fid, .string fky, .bool fbk, .bool fot, .int .i64 fdu, .bool fdm, .string fm, .string fh, .string fp, .slice fa fn fc, .slice ua un uc]) w7) := F6.out.keep hb
  clear K5 F6 hb
  clear CA_s
  obtain ⟨l11, hl11⟩ : ∃ n, w4.heap.size = n := ⟨_, rfl⟩
  obtain ⟨h12, hh12⟩ : ∃ n, w7.heap.size = n := ⟨_, rfl⟩
  have F10 : Hid (At l11 h12 (CR ras rns rks was wns wks gas gns gks) w7) := by rw [← hl11, ← hh12]; exact cr
  clear cr hl11 hh12
  obtain ⟨V14, hV14⟩ : ∃ V, V = w7.alloc (.cells #[.int .i64 rc, .int .i64 qid, .string qky, .bool qbk, .bool qot, .int .i64 qdu, .bool qdm, .string qmm, .string qhh, .string qpp, .slice ras rns rks, .slice was wns wks, .slice gas gns gks] 49) := ⟨_, rfl⟩
  have HV14 : Hid (V14 = w7.alloc (.cells #[.int .i64 rc, .int .i64 qid, .string qky, .bool qbk, .bool qot, .int .i64 qdu, .bool qdm, .string qmm, .string qhh, .string qpp, .slice ras rns rks, .slice was wns wks, .slice gas gns gks] 49)) := hV14
  have ab : Below w7.heap.size w7 V14 := by rw [hV14]; exact (Below.refl _ _).alloc (Nat.le_refl _) _
  have F15 : Hid (At w7.heap.size (w7.heap.size + 1) (Bx w7.heap.size [.int .i64 rc, .int .i64 qid, .string qky, .bool qbk, .bool qot, .int .i64 qdu, .bool qdm, .string qmm, .string qhh, .string qpp, .slice ras rns rks, .slice was wns wks, .slice gas gns gks]) V14) := by rw [hV14]; exact Bx.new _ _ _
  have O16 : Hid ((w.heap.size + 1) ≤ w7.heap.size ∧ h12 ≤ w7.heap.size ∧ w.heap.size ≤ w7.heap.size) := ⟨F9.out.le, F10.out.le, K8.out.size⟩
  have K17 : Hid (Below w.heap.size w V14) := K8.out.trans (ab.mono K8.out.size)
  have F18 : Hid (At w.heap.size (w.heap.size + 1) (Bx w.heap.size [.int .i64 fid, .string fky, .bool fbk, .bool fot, .int .i64 fdu, .bool fdm, .string fm, .string fh, .string fp, .slice fa fn fc, .slice ua un uc]) V14) := F9.out.keep ab
  have F19 : Hid (At l11 h12 (CR ras rns rks was wns wks gas gns gks) V14) := F10.out.keep ab
  clear K8 F9 F10
  clear ab hV14
  have LF18 := hidL F18.out.val.1
  have LF15 := hidL F15.out.val.1
  go_upto_region 6 with (first | ((with_reducible refine flL_load (b := w.heap.size) (vs := [.int .i64 fid, .string fky, .bool fbk, .bool fot, .int .i64 fdu, .bool fdm, .string fm, .string fh, .string fp, .slice fa fn fc, .slice ua un uc]) ?_ ?_ LF18.out ?_); exact rfl; exact rfl) | ((with_reducible refine wrR_load (b := w7.heap.size) (vs := [.int .i64 rc, .int .i64 qid, .string qky, .bool qbk, .bool qot, .int .i64 qdu, .bool qdm, .string qmm, .string qhh, .string qpp, .slice ras rns rks, .slice was wns wks, .slice gas gns gks]) ?_ ?_ LF15.out ?_); exact rfl; exact rfl) | ((with_reducible refine wrR_store (c' := #[.int .i64 rc, .int .i64 qid, .string qky, .bool qbk, .bool qot, .int .i64 qdu, .bool qdm, .string qmm, .string qhh, .string qpp, .slice ras rns rks, .slice was wns wks, .slice gas gns gks]) ?_ ?_ ?_ ?_ ?_ ?_); exact rfl; exact rfl; exact rfl; exact rfl; exact rfl))
  clear LF18 LF15
  rw [← HV14.out]
  clear HV14
  generalize w7.heap.size = x20 at *
  clear HF
  have LF18 := hidL F18.out.val.1
  have LF15 := hidL F15.out.val.1
  go_wp2_with (first | ((with_reducible refine flL_load (b := w.heap.size) (vs := [.int .i64 fid, .string fky, .bool fbk, .bool fot, .int .i64 fdu, .bool fdm, .string fm, .string fh, .string fp, .slice fa fn fc, .slice ua un uc]) ?_ ?_ LF18.out ?_); exact rfl; exact rfl) | ((with_reducible refine wrR_load (b := x20) (vs := [.int .i64 rc, .int .i64 qid, .string qky, .bool qbk, .bool qot, .int .i64 qdu, .bool qdm, .string qmm, .string qhh, .string qpp, .slice ras rns rks, .slice was wns wks, .slice gas gns gks]) ?_ ?_ LF15.out ?_); exact rfl; exact rfl))
  clear LF18 LF15
  refine (HT1.out _ K17.out).mono ?_
  rintro e0 w21 ⟨⟨K1x1, D1x1, rfl, ca⟩, hb⟩
  obtain ⟨l22, hl22⟩ : ∃ n, V14.heap.size = n := ⟨_, rfl⟩
  obtain ⟨h23, hh23⟩ : ∃ n, w21.heap.size = n := ⟨_, rfl⟩
  have O24 : Hid ((w.heap.size + 1) ≤ l22 ∧ h12 ≤ l22 ∧ (x20 + 1) ≤ l22 ∧ w.heap.size ≤ l22 ∧ l22 ≤ h23) := ⟨(by rw [← hl22]; exact F18.out.le), (by rw [← hl22]; exact F19.out.le), (by rw [← hl22]; exact F15.out.le), (by rw [← hl22]; exact K17.out.size), (by rw [← hl22, ← hh23]; exact hb.size)⟩
  have F25 : Hid (At l22 h23 (CA1 K1x1 D1x1) w21) := by rw [← hl22, ← hh23]; exact ca
  clear ca hl22 hh23
  have K26 : Hid (Below w.heap.size w w21) := K17.out.trans (hb.mono K17.out.size)
  have F27 : Hid (At w.heap.size (w.heap.size + 1) (Bx w.heap.size [.int .i64 fid, .string fky, .bool fbk, .bool fot, .int .i64 fdu, .bool fdm, .string fm, .string fh, .string fp, .slice fa fn fc, .slice ua un uc]) w21) := F18.out.keep hb
  have F28 : Hid (At l11 h12 (CR ras rns rks was wns wks gas gns gks) w21) := F19.out.keep hb
  have F29 : Hid (At x20 (x20 + 1) (Bx x20 [.int .i64 rc, .int .i64 qid, .string qky, .bool qbk, .bool qot, .int .i64 qdu, .bool qdm, .string qmm, .string qhh, .string qpp, .slice ras rns rks, .slice was wns wks, .slice gas gns gks]) w21) := F15.out.keep hb
  clear K17 F18 F19 F15 hb
  obtain ⟨V30, hV30⟩ : ∃ V, V = w21.alloc (.cells #[.int .i64 fid, .string fky, .bool fbk, .bool fot, .int .i64 fdu, .bool fdm, .string fm, .string fh, .string fp, .slice (some ⟨K1x1, 0, none⟩) fn fn, .slice (some ⟨D1x1, 0, none⟩) un un] 36) := ⟨_, rfl⟩
  have HV30 : Hid (V30 = w21.alloc (.cells #[.int .i64 fid, .string fky, .bool fbk, .bool fot, .int .i64 fdu, .bool fdm, .string fm, .string fh, .string fp, .slice (some ⟨K1x1, 0, none⟩) fn fn, .slice (some ⟨D1x1, 0, none⟩) un un] 36)) := hV30
  have ab : Below w21.heap.size w21 V30 := by rw [hV30]; exact (Below.refl _ _).alloc (Nat.le_refl _) _
  have F31 : Hid (At w21.heap.size (w21.heap.size + 1) (Bx w21.heap.size [.int .i64 fid, .string fky, .bool fbk, .bool fot, .int .i64 fdu, .bool fdm, .string fm, .string fh, .string fp, .slice (some ⟨K1x1, 0, none⟩) fn fn, .slice (some ⟨D1x1, 0, none⟩) un un]) V30) := by rw [hV30]; exact Bx.new _ _ _
  have O32 : Hid ((w.heap.size + 1) ≤ w21.heap.size ∧ h12 ≤ w21.heap.size ∧ (x20 + 1) ≤ w21.heap.size ∧ h23 ≤ w21.heap.size ∧ w.heap.size ≤ w21.heap.size) := ⟨F27.out.le, F28.out.le, F29.out.le, F25.out.le, K26.out.size⟩
  have K33 : Hid (Below w.heap.size w V30) := K26.out.trans (ab.mono K26.out.size)
  have F34 : Hid (At w.heap.size (w.heap.size + 1) (Bx w.heap.size [.int .i64 fid, .string fky, .bool fbk, .bool fot, .int .i64 fdu, .bool fdm, .string fm, .string fh, .string fp, .slice fa fn fc, .slice ua un uc]) V30) := F27.out.keep ab
  have F35 : Hid (At l11 h12 (CR ras rns rks was wns wks gas gns gks) V30) := F28.out.keep ab
  have F36 : Hid (At x20 (x20 + 1) (Bx x20 [.int .i64 rc, .int .i64 qid, .string qky, .bool qbk, .bool qot, .int .i64 qdu, .bool qdm, .string qmm, .string qhh, .string qpp, .slice ras rns rks, .slice was wns wks, .slice gas gns gks]) V30) := F29.out.keep ab
  have F37 : Hid (At l22 h23 (CA1 K1x1 D1x1) V30) := F25.out.keep ab
  clear K26 F27 F28 F29 F25
  clear ab hV30
  have LF34 := hidL F34.out.val.1
  have LF36 := hidL F36.out.val.1
  have LF31 := hidL F31.out.val.1
  go_upto_region 7 with (first | ((with_reducible refine flL_load (b := w.heap.size) (vs := [.int .i64 fid, .string fky, .bool fbk, .bool fot, .int .i64 fdu, .bool fdm, .string fm, .string fh, .string fp, .slice fa fn fc, .slice ua un uc]) ?_ ?_ LF34.out ?_); exact rfl; exact rfl) | ((with_reducible refine wrR_load (b := x20) (vs := [.int .i64 rc, .int .i64 qid, .string qky, .bool qbk, .bool qot, .int .i64 qdu, .bool qdm, .string qmm, .string qhh, .string qpp, .slice ras rns rks, .slice was wns wks, .slice gas gns gks]) ?_ ?_ LF36.out ?_); exact rfl; exact rfl) | ((with_reducible refine flI_load (b := w21.heap.size) (vs := [.int .i64 fid, .string fky, .bool fbk, .bool fot, .int .i64 fdu, .bool fdm, .string fm, .string fh, .string fp, .slice (some ⟨K1x1, 0, none⟩) fn fn, .slice (some ⟨D1x1, 0, none⟩) un un]) ?_ ?_ LF31.out ?_); exact rfl; exact rfl) | ((with_reducible refine flI_store (c' := #[.int .i64 fid, .string fky, .bool fbk, .bool fot, .int .i64 fdu, .bool fdm, .string fm, .string fh, .string fp, .slice (some ⟨K1x1, 0, none⟩) fn fn, .slice (some ⟨D1x1, 0, none⟩) un un]) ?_ ?_ ?_ ?_ ?_ ?_); exact rfl; exact rfl; exact rfl; exact rfl; exact rfl))
  clear LF34 LF36 LF31
  rw [← HV30.out]
  clear HV30
  generalize w21.heap.size = x38 at *
  have LF34 := hidL F34.out.val.1
  have LF36 := hidL F36.out.val.1
  have LF31 := hidL F31.out.val.1
  go_wp2_with (first | ((with_reducible refine flL_load (b := w.heap.size) (vs := [.int .i64 fid, .string fky, .bool fbk, .bool fot, .int .i64 fdu, .bool fdm, .string fm, .string fh, .string fp, .slice fa fn fc, .slice ua un uc]) ?_ ?_ LF34.out ?_); exact rfl; exact rfl) | ((with_reducible refine wrR_load (b := x20) (vs := [.int .i64 rc, .int .i64 qid, .string qky, .bool qbk, .bool qot, .int .i64 qdu, .bool qdm, .string qmm, .string qhh, .string qpp, .slice ras rns rks, .slice was wns wks, .slice gas gns gks]) ?_ ?_ LF36.out ?_); exact rfl; exact rfl) | ((with_reducible refine flI_load (b := x38) (vs := [.int .i64 fid, .string fky, .bool fbk, .bool fot, .int .i64 fdu, .bool fdm, .string fm, .string fh, .string fp, .slice (some ⟨K1x1, 0, none⟩) fn fn, .slice (some ⟨D1x1, 0, none⟩) un un]) ?_ ?_ LF31.out ?_); exact rfl; exact rfl))
  clear LF34 LF36 LF31
  refine (HG.out _ _ _ _ _ K33.out F37.out).mono ?_
  rintro e0 w39 ⟨⟨rag, rng, rkg, wag, wng, wkg, gag, gng, gkg, rfl, cr⟩, hb⟩
  obtain ⟨l40, hl40⟩ : ∃ n, V30.heap.size = n := ⟨_, rfl⟩
  obtain ⟨h41, hh41⟩ : ∃ n, w39.heap.size = n := ⟨_, rfl⟩
  have O42 : Hid ((w.heap.size + 1) ≤ l40 ∧ h12 ≤ l40 ∧ (x20 + 1) ≤ l40 ∧ h23 ≤ l40 ∧ (x38 + 1) ≤ l40 ∧ w.heap.size ≤ l40 ∧ l40 ≤ h41) := ⟨(by rw [← hl40]; exact F34.out.le), (by rw [← hl40]; exact F35.out.le), (by rw [← hl40]; exact F36.out.le), (by rw [← hl40]; exact F37.out.le), (by rw [← hl40]; exact F31.out.le), (by rw [← hl40]; exact K33.out.size), (by rw [← hl40, ← hh41]; exact hb.size)⟩
  have F43 : Hid (At l40 h41 (CR rag rng rkg wag wng wkg gag gng gkg) w39) := by rw [← hl40, ← hh41]; exact cr
  clear cr hl40 hh41
  have K44 : Hid (Below w.heap.size w w39) := K33.out.trans (hb.mono K33.out.size)
  have F45 : Hid (At w.heap.size (w.heap.size + 1) (Bx w.heap.size [.int .i64 fid, .string fky, .bool fbk, .bool fot, .int .i64 fdu, .bool fdm, .string fm, .string fh, .string fp, .slice fa fn fc, .slice ua un uc]) w39) := F34.out.keep hb
  have F46 : Hid (At l11 h12 (CR ras rns rks was wns wks gas gns gks) w39) := F35.out.keep hb
  have F47 : Hid (At x20 (x20 + 1) (Bx x20 [.int .i64 rc, .int .i64 qid, .string qky, .bool qbk, .bool qot, .int .i64 qdu, .bool qdm, .string qmm, .string qhh, .string qpp, .slice ras rns rks, .slice was wns wks, .slice gas gns gks]) w39) := F36.out.keep hb
  have F48 : Hid (At l22 h23 (CA1 K1x1 D1x1) w39) := F37.out.keep hb
  have F49 : Hid (At x38 (x38 + 1) (Bx x38 [.int .i64 fid, .string fky, .bool fbk, .bool fot, .int .i64 fdu, .bool fdm, .string fm, .string fh, .string fp, .slice (some ⟨K1x1, 0, none⟩) fn fn, .slice (some ⟨D1x1, 0, none⟩) un un]) w39) := F31.out.keep hb
  clear K33 F34 F35 F36 F37 F31 hb
  obtain ⟨V50, hV50⟩ : ∃ V, V = w39.alloc (.cells #[.int .i64 rc, .int .i64 qid, .string qky, .bool qbk, .bool qot, .int .i64 qdu, .bool qdm, .string qmm, .string qhh, .string qpp, .slice rag rng rkg, .slice wag wng wkg, .slice gag gng gkg] 49) := ⟨_, rfl⟩
  have HV50 : Hid (V50 = w39.alloc (.cells #[.int .i64 rc, .int .i64 qid, .string qky, .bool qbk, .bool qot, .int .i64 qdu, .bool qdm, .string qmm, .string qhh, .string qpp, .slice rag rng rkg, .slice wag wng wkg, .slice gag gng gkg] 49)) := hV50
  have ab : Below w39.heap.size w39 V50 := by rw [hV50]; exact (Below.refl _ _).alloc (Nat.le_refl _) _
  have F51 : Hid (At w39.heap.size (w39.heap.size + 1) (Bx w39.heap.size [.int .i64 rc, .int .i64 qid, .string qky, .bool qbk, .bool qot, .int .i64 qdu, .bool qdm, .string qmm, .string qhh, .string qpp, .slice rag rng rkg, .slice wag wng wkg, .slice gag gng gkg]) V50) := by rw [hV50]; exact Bx.new _ _ _
  have O52 : Hid ((w.heap.size + 1) ≤ w39.heap.size ∧ h12 ≤ w39.heap.size ∧ (x20 + 1) ≤ w39.heap.size ∧ h23 ≤ w39.heap.size ∧ (x38 + 1) ≤ w39.heap.size ∧ h41 ≤ w39.heap.size ∧ w.heap.size ≤ w39.heap.size) := ⟨F45.out.le, F46.out.le, F47.out.le, F48.out.le, F49.out.le, F43.out.le, K44.out.size⟩
  have K53 : Hid (Below w.heap.size w V50) := K44.out.trans (ab.mono K44.out.size)
  have F54 : Hid (At w.heap.size (w.heap.size + 1) (Bx w.heap.size [.int .i64 fid, .string fky, .bool fbk, .bool fot, .int .i64 fdu, .bool fdm, .string fm, .string fh, .string fp, .slice fa fn fc, .slice ua un uc]) V50) := F45.out.keep ab
  have F55 : Hid (At l11 h12 (CR ras rns rks was wns wks gas gns gks) V50) := F46.out.keep ab
  have F56 : Hid (At x20 (x20 + 1) (Bx x20 [.int .i64 rc, .int .i64 qid, .string qky, .bool qbk, .bool qot, .int .i64 qdu, .bool qdm, .string qmm, .string qhh, .string qpp, .slice ras rns rks, .slice was wns wks, .slice gas gns gks]) V50) := F47.out.keep ab
  have F57 : Hid (At l22 h23 (CA1 K1x1 D1x1) V50) := F48.out.keep ab
  have F58 : Hid (At x38 (x38 + 1) (Bx x38 [.int .i64 fid, .string fky, .bool fbk, .bool fot, .int .i64 fdu, .bool fdm, .string fm, .string fh, .string fp, .slice (some ⟨K1x1, 0, none⟩) fn fn, .slice (some ⟨D1x1, 0, none⟩) un un]) V50) := F49.out.keep ab
  have F59 : Hid (At l40 h41 (CR rag rng rkg wag wng wkg gag gng gkg) V50) := F43.out.keep ab
  clear K44 F45 F46 F47 F48 F49 F43
  clear ab hV50
  have LF54 := hidL F54.out.val.1
  have LF56 := hidL F56.out.val.1
  have LF58 := hidL F58.out.val.1
  have LF51 := hidL F51.out.val.1
  go_upto_region 8 with (first | ((with_reducible refine flL_load (b := w.heap.size) (vs := [.int .i64 fid, .string fky, .bool fbk, .bool fot, .int .i64 fdu, .bool fdm, .string fm, .string fh, .string fp, .slice fa fn fc, .slice ua un uc]) ?_ ?_ LF54.out ?_); exact rfl; exact rfl) | ((with_reducible refine wrR_load (b := x20) (vs := [.int .i64 rc, .int .i64 qid, .string qky, .bool qbk, .bool qot, .int .i64 qdu, .bool qdm, .string qmm, .string qhh, .string qpp, .slice ras rns rks, .slice was wns wks, .slice gas gns gks]) ?_ ?_ LF56.out ?_); exact rfl; exact rfl) | ((with_reducible refine flI_load (b := x38) (vs := [.int .i64 fid, .string fky, .bool fbk, .bool fot, .int .i64 fdu, .bool fdm, .string fm, .string fh, .string fp, .slice (some ⟨K1x1, 0, none⟩) fn fn, .slice (some ⟨D1x1, 0, none⟩) un un]) ?_ ?_ LF58.out ?_); exact rfl; exact rfl) | ((with_reducible refine wrR_load (b := w39.heap.size) (vs := [.int .i64 rc, .int .i64 qid, .string qky, .bool qbk, .bool qot, .int .i64 qdu, .bool qdm, .string qmm, .string qhh, .string qpp, .slice rag rng rkg, .slice wag wng wkg, .slice gag gng gkg]) ?_ ?_ LF51.out ?_); exact rfl; exact rfl) | ((with_reducible refine wrR_store (c' := #[.int .i64 rc, .int .i64 qid, .string qky, .bool qbk, .bool qot, .int .i64 qdu, .bool qdm, .string qmm, .string qhh, .string qpp, .slice rag rng rkg, .slice wag wng wkg, .slice gag gng gkg]) ?_ ?_ ?_ ?_ ?_ ?_); exact rfl; exact rfl; exact rfl; exact rfl; exact rfl))
  clear LF54 LF56 LF58 LF51
  rw [← HV50.out]
  clear HV50
  generalize w39.heap.size = x60 at *
  have LF54 := hidL F54.out.val.1
  have LF56 := hidL F56.out.val.1
  have LF58 := hidL F58.out.val.1
  have LF51 := hidL F51.out.val.1
  go_wp2_with (first | ((with_reducible refine flL_load (b := w.heap.size) (vs := [.int .i64 fid, .string fky, .bool fbk, .bool fot, .int .i64 fdu, .bool fdm, .string fm, .string fh, .string fp, .slice fa fn fc, .slice ua un uc]) ?_ ?_ LF54.out ?_); exact rfl; exact rfl) | ((with_reducible refine wrR_load (b := x20) (vs := [.int .i64 rc, .int .i64 qid, .string qky, .bool qbk, .bool qot, .int .i64 qdu, .bool qdm, .string qmm, .string qhh, .string qpp, .slice ras rns rks, .slice was wns wks, .slice gas gns gks]) ?_ ?_ LF56.out ?_); exact rfl; exact rfl) | ((with_reducible refine flI_load (b := x38) (vs := [.int .i64 fid, .string fky, .bool fbk, .bool fot, .int .i64 fdu, .bool fdm, .string fm, .string fh, .string fp, .slice (some ⟨K1x1, 0, none⟩) fn fn, .slice (some ⟨D1x1, 0, none⟩) un un]) ?_ ?_ LF58.out ?_); exact rfl; exact rfl) | ((with_reducible refine wrR_load (b := x60) (vs := [.int .i64 rc, .int .i64 qid, .string qky, .bool qbk, .bool qot, .int .i64 qdu, .bool qdm, .string qmm, .string qhh, .string qpp, .slice rag rng rkg, .slice wag wng wkg, .slice gag gng gkg]) ?_ ?_ LF51.out ?_); exact rfl; exact rfl))
  clear LF54 LF56 LF58 LF51
  refine (HEQ.out _ _ _ _ _ _ _ _ _ _ _ _ _ _ _ _ _ _ _ _ _ _ _ F59.out F55.out).mono ?_
  rintro e0 w61 ⟨rfl, hb⟩
  have K62 : Hid (Below w.heap.size w w61) := K53.out.trans (hb.mono K53.out.size)
  have F63 : Hid (At w.heap.size (w.heap.size + 1) (Bx w.heap.size [.int .i64 fid, .string fky, .bool fbk, .bool fot, .int .i64 fdu, .bool fdm, .string fm, .string fh, .string fp, .slice fa fn fc, .slice ua un uc]) w61) := F54.out.keep hb
  have F64 : Hid (At l11 h12 (CR ras rns rks was wns wks gas gns gks) w61) := F55.out.keep hb
  have F65 : Hid (At x20 (x20 + 1) (Bx x20 [.int .i64 rc, .int .i64 qid, .string qky, .bool qbk, .bool qot, .int .i64 qdu, .bool qdm, .string qmm, .string qhh, .string qpp, .slice ras rns rks, .slice was wns wks, .slice gas gns gks]) w61) := F56.out.keep hb
  have F66 : Hid (At l22 h23 (CA1 K1x1 D1x1) w61) := F57.out.keep hb
  have F67 : Hid (At x38 (x38 + 1) (Bx x38 [.int .i64 fid, .string fky, .bool fbk, .bool fot, .int .i64 fdu, .bool fdm, .string fm, .string fh, .string fp, .slice (some ⟨K1x1, 0, none⟩) fn fn, .slice (some ⟨D1x1, 0, none⟩) un un]) w61) := F58.out.keep hb
  have F68 : Hid (At l40 h41 (CR rag rng rkg wag wng wkg gag gng gkg) w61) := F59.out.keep hb
  have F69 : Hid (At x60 (x60 + 1) (Bx x60 [.int .i64 rc, .int .i64 qid, .string qky, .bool qbk, .bool qot, .int .i64 qdu, .bool qdm, .string qmm, .string qhh, .string qpp, .slice rag rng rkg, .slice wag wng wkg, .slice gag gng gkg]) w61) := F51.out.keep hb
  clear K53 F54 F55 F56 F57 F58 F59 F51 hb
  have HKS : Hid (∀ X, Below w61.heap.size w61 X → X.rangeAt w.heap.size 0 [.int .i64 fid, .string fky, .bool fbk, .bool fot, .int .i64 fdu, .bool fdm, .string fm, .string fh, .string fp, .slice fa fn fc, .slice ua un uc] ∧ X.rangeAt x38 0 [.int .i64 fid, .string fky, .bool fbk, .bool fot, .int .i64 fdu, .bool fdm, .string fm, .string fh, .string fp, .slice (some ⟨K1x1, 0, none⟩) fn fn, .slice (some ⟨D1x1, 0, none⟩) un un]) := fun X hX => ⟨range_of (F63.out.keep hX).val.1, range_of (F67.out.keep hX).val.1⟩
  have B0 : Hid (Below w61.heap.size w61 w61.drew) := (Below.refl _ _).drew
  have KB0 : Hid (Below w.heap.size w w61.drew) := K62.out.trans (B0.out.mono K62.out.size)
  go_upto_region 10 with fail
  refine wp_region_held_drew (S := fun X => X.rangeAt w.heap.size 0 [.int .i64 fid, .string fky, .bool fbk, .bool fot, .int .i64 fdu, .bool fdm, .string fm, .string fh, .string fp, .slice fa fn fc, .slice ua un uc] ∧ X.rangeAt x38 0 [.int .i64 fid, .string fky, .bool fbk, .bool fot, .int .i64 fdu, .bool fdm, .string fm, .string fh, .string fp, .slice (some ⟨K1x1, 0, none⟩) fn fn, .slice (some ⟨D1x1, 0, none⟩) un un]) (by kernel_rfl) ?_ (fun hHeld => ?_)
  · exact HKS.out _ B0.out
  refine' wpAnyH_take (i := 0) (oi := _) (v := _) rfl (by kernel_rfl) (by kernel_rfl) (by kernel_rfl) (fun _ _ _ h => h) (yieldsIf_load_mid (by rfl) _ _ rfl (x38) 0 rfl _ _ (fun _ h => h.2) Tryz.underlying36 rfl flI_size) hHeld ?_
  (try simp only [Act.put, List.setIfInBounds_toArray, List.set_cons_zero, List.set_cons_succ])
  refine' wpAnyH_take (i := 1) (oi := _) (v := _) rfl (by kernel_rfl) (by kernel_rfl) (by kernel_rfl) (fun _ _ _ h => h) (yieldsIf_load_mid (by rfl) _ _ rfl (w.heap.size) 0 rfl _ _ (fun _ h => h.1) Tryz.underlying27 rfl flL_size) hHeld ?_
  (try simp only [Act.put, List.setIfInBounds_toArray, List.set_cons_zero, List.set_cons_succ])
  refine wpAnyH_ready (rs := [2]) (by kernel_rfl) (by simp) ?_
  refine AllReadyH.cons (o := _) rfl (fun K hK => ?_) AllReadyH.nil
  go_simp
  (with_reducible refine (HT1.out w61.drew KB0.out).mono ?_)
  rintro e0 w70 ⟨⟨K1t, D1t, rfl, ca⟩, hb⟩
  have BA : Hid (Below w61.heap.size w61 w70) := B0.out.trans (hb.mono B0.out.size)
  have MA := hidL ca
  clear ca hb
  go_wp2_with fail
  refine hK.out _ _ ?_ (fun hHeld => ?_)
  · exact HKS.out _ BA.out
  clear hK
  (try simp only [Act.put, List.setIfInBounds_toArray, List.set_cons_zero, List.set_cons_succ])
  refine wpAnyH_ready (rs := [3]) (by kernel_rfl) (by simp) ?_
  refine AllReadyH.cons (o := _) rfl (fun K hK => ?_) AllReadyH.nil
  go_simp
  (with_reducible refine (HQ1.out w70 _ _ _ _ _ _ _ _ (F66.out.keep BA.out) MA.out).mono ?_)
  rintro e0 w71 ⟨rfl, hb⟩
  have BB : Hid (Below w61.heap.size w61 w71) := BA.out.trans (hb.mono BA.out.size)
  clear hb
  go_wp2_with fail
  refine hK.out _ _ ?_ (fun hHeld => ?_)
  · exact HKS.out _ BB.out
  clear hK
  (try simp only [Act.put, List.setIfInBounds_toArray, List.set_cons_zero, List.set_cons_succ])
  refine wpAnyH_ready (rs := [4]) (by kernel_rfl) (by simp) ?_
  refine AllReadyH.cons (o := _) rfl (fun K hK => ?_) AllReadyH.nil
  go_simp
  refine hK.out _ _ ?_ (fun hHeld => ?_)
  · exact HKS.out _ BB.out
  clear hK
  (try simp only [Act.put, List.setIfInBounds_toArray, List.set_cons_zero, List.set_cons_succ])
  refine wpAnyH_done (by kernel_rfl) ?_ _
  clear hHeld
  have K72 : Hid (Below w.heap.size w w71) := K62.out.trans (BB.out.mono K62.out.size)
  have F73 : Hid (At w.heap.size (w.heap.size + 1) (Bx w.heap.size [.int .i64 fid, .string fky, .bool fbk, .bool fot, .int .i64 fdu, .bool fdm, .string fm, .string fh, .string fp, .slice fa fn fc, .slice ua un uc]) w71) := F63.out.keep BB.out
  have F74 : Hid (At l11 h12 (CR ras rns rks was wns wks gas gns gks) w71) := F64.out.keep BB.out
  have F75 : Hid (At x20 (x20 + 1) (Bx x20 [.int .i64 rc, .int .i64 qid, .string qky, .bool qbk, .bool qot, .int .i64 qdu, .bool qdm, .string qmm, .string qhh, .string qpp, .slice ras rns rks, .slice was wns wks, .slice gas gns gks]) w71) := F65.out.keep BB.out
  have F76 : Hid (At l22 h23 (CA1 K1x1 D1x1) w71) := F66.out.keep BB.out
  have F77 : Hid (At x38 (x38 + 1) (Bx x38 [.int .i64 fid, .string fky, .bool fbk, .bool fot, .int .i64 fdu, .bool fdm, .string fm, .string fh, .string fp, .slice (some ⟨K1x1, 0, none⟩) fn fn, .slice (some ⟨D1x1, 0, none⟩) un un]) w71) := F67.out.keep BB.out
  have F78 : Hid (At l40 h41 (CR rag rng rkg wag wng wkg gag gng gkg) w71) := F68.out.keep BB.out
  have F79 : Hid (At x60 (x60 + 1) (Bx x60 [.int .i64 rc, .int .i64 qid, .string qky, .bool qbk, .bool qot, .int .i64 qdu, .bool qdm, .string qmm, .string qhh, .string qpp, .slice rag rng rkg, .slice wag wng wkg, .slice gag gng gkg]) w71) := F69.out.keep BB.out
  clear K62 F63 F64 F65 F66 F67 F68 F69
  clear HKS B0 BA BB MA KB0
  clear HQ1
  have LF73 := hidL F73.out.val.1
  have LF75 := hidL F75.out.val.1
  have LF77 := hidL F77.out.val.1
  have LF79 := hidL F79.out.val.1
  go_wp2_with (first | ((with_reducible refine flL_load (b := w.heap.size) (vs := [.int .i64 fid, .string fky, .bool fbk, .bool fot, .int .i64 fdu, .bool fdm, .string fm, .string fh, .string fp, .slice fa fn fc, .slice ua un uc]) ?_ ?_ LF73.out ?_); exact rfl; exact rfl) | ((with_reducible refine wrR_load (b := x20) (vs := [.int .i64 rc, .int .i64 qid, .string qky, .bool qbk, .bool qot, .int .i64 qdu, .bool qdm, .string qmm, .string qhh, .string qpp, .slice ras rns rks, .slice was wns wks, .slice gas gns gks]) ?_ ?_ LF75.out ?_); exact rfl; exact rfl) | ((with_reducible refine flI_load (b := x38) (vs := [.int .i64 fid, .string fky, .bool fbk, .bool fot, .int .i64 fdu, .bool fdm, .string fm, .string fh, .string fp, .slice (some ⟨K1x1, 0, none⟩) fn fn, .slice (some ⟨D1x1, 0, none⟩) un un]) ?_ ?_ LF77.out ?_); exact rfl; exact rfl) | ((with_reducible refine wrR_load (b := x60) (vs := [.int .i64 rc, .int .i64 qid, .string qky, .bool qbk, .bool qot, .int .i64 qdu, .bool qdm, .string qmm, .string qhh, .string qpp, .slice rag rng rkg, .slice wag wng wkg, .slice gag gng gkg]) ?_ ?_ LF79.out ?_); exact rfl; exact rfl))
  clear LF73 LF75 LF77 LF79
  refine (HM1.out _ _ _ _ _ F76.out (by have := SW.out; have := O16.out; have := O24.out; have := O32.out; have := O42.out; have := O52.out; omega)).mono ?_
  rintro e0 w80 ⟨rfl, hg, hb⟩
  clear F76
  have K81 : Hid (Below w.heap.size w w80) := K72.out.trans hb
  have F82 : Hid (At w.heap.size (w.heap.size + 1) (Bx w.heap.size [.int .i64 fid, .string fky, .bool fbk, .bool fot, .int .i64 fdu, .bool fdm, .string fm, .string fh, .string fp, .slice fa fn fc, .slice ua un uc]) w80) := F73.out.wi hg (by have := SW.out; have := O16.out; have := O24.out; have := O32.out; have := O42.out; have := O52.out; omega)
  have F83 : Hid (At l11 h12 (CR ras rns rks was wns wks gas gns gks) w80) := F74.out.wi hg (by have := SW.out; have := O16.out; have := O24.out; have := O32.out; have := O42.out; have := O52.out; omega)
  have F84 : Hid (At x20 (x20 + 1) (Bx x20 [.int .i64 rc, .int .i64 qid, .string qky, .bool qbk, .bool qot, .int .i64 qdu, .bool qdm, .string qmm, .string qhh, .string qpp, .slice ras rns rks, .slice was wns wks, .slice gas gns gks]) w80) := F75.out.wi hg (by have := SW.out; have := O16.out; have := O24.out; have := O32.out; have := O42.out; have := O52.out; omega)
  have F85 : Hid (At x38 (x38 + 1) (Bx x38 [.int .i64 fid, .string fky, .bool fbk, .bool fot, .int .i64 fdu, .bool fdm, .string fm, .string fh, .string fp, .slice (some ⟨K1x1, 0, none⟩) fn fn, .slice (some ⟨D1x1, 0, none⟩) un un]) w80) := F77.out.wi hg (by have := SW.out; have := O16.out; have := O24.out; have := O32.out; have := O42.out; have := O52.out; omega)
  have F86 : Hid (At l40 h41 (CR rag rng rkg wag wng wkg gag gng gkg) w80) := F78.out.wi hg (by have := SW.out; have := O16.out; have := O24.out; have := O32.out; have := O42.out; have := O52.out; omega)
  have F87 : Hid (At x60 (x60 + 1) (Bx x60 [.int .i64 rc, .int .i64 qid, .string qky, .bool qbk, .bool qot, .int .i64 qdu, .bool qdm, .string qmm, .string qhh, .string qpp, .slice rag rng rkg, .slice wag wng wkg, .slice gag gng gkg]) w80) := F79.out.wi hg (by have := SW.out; have := O16.out; have := O24.out; have := O32.out; have := O42.out; have := O52.out; omega)
  clear K72 F73 F74 F75 F77 F78 F79 hg hb
  clear HM1
  have hkd : decide (k1 < 0) = false := by simpa using hk0
  have LF82 := hidL F82.out.val.1
  have LF84 := hidL F84.out.val.1
  have LF85 := hidL F85.out.val.1
  have LF87 := hidL F87.out.val.1
  go_wp2_with (first | ((with_reducible refine flL_load (b := w.heap.size) (vs := [.int .i64 fid, .string fky, .bool fbk, .bool fot, .int .i64 fdu, .bool fdm, .string fm, .string fh, .string fp, .slice fa fn fc, .slice ua un uc]) ?_ ?_ LF82.out ?_); exact rfl; exact rfl) | ((with_reducible refine flL_loadG (b := w.heap.size) (vs := [.int .i64 fid, .string fky, .bool fbk, .bool fot, .int .i64 fdu, .bool fdm, .string fm, .string fh, .string fp, .slice fa fn fc, .slice ua un uc]) ?_ ?_ ?_ LF82.out ?_); exact rfl; exact rfl; (first | exact rfl | kernel_rfl | simp [Region.wanted, yielded])) | ((with_reducible refine wrR_load (b := x20) (vs := [.int .i64 rc, .int .i64 qid, .string qky, .bool qbk, .bool qot, .int .i64 qdu, .bool qdm, .string qmm, .string qhh, .string qpp, .slice ras rns rks, .slice was wns wks, .slice gas gns gks]) ?_ ?_ LF84.out ?_); exact rfl; exact rfl) | ((with_reducible refine wrR_loadG (b := x20) (vs := [.int .i64 rc, .int .i64 qid, .string qky, .bool qbk, .bool qot, .int .i64 qdu, .bool qdm, .string qmm, .string qhh, .string qpp, .slice ras rns rks, .slice was wns wks, .slice gas gns gks]) ?_ ?_ ?_ LF84.out ?_); exact rfl; exact rfl; (first | exact rfl | kernel_rfl | simp [Region.wanted, yielded])) | ((with_reducible refine flI_load (b := x38) (vs := [.int .i64 fid, .string fky, .bool fbk, .bool fot, .int .i64 fdu, .bool fdm, .string fm, .string fh, .string fp, .slice (some ⟨K1x1, 0, none⟩) fn fn, .slice (some ⟨D1x1, 0, none⟩) un un]) ?_ ?_ LF85.out ?_); exact rfl; exact rfl) | ((with_reducible refine flI_loadG (b := x38) (vs := [.int .i64 fid, .string fky, .bool fbk, .bool fot, .int .i64 fdu, .bool fdm, .string fm, .string fh, .string fp, .slice (some ⟨K1x1, 0, none⟩) fn fn, .slice (some ⟨D1x1, 0, none⟩) un un]) ?_ ?_ ?_ LF85.out ?_); exact rfl; exact rfl; (first | exact rfl | kernel_rfl | simp [Region.wanted, yielded])) | ((with_reducible refine wrR_load (b := x60) (vs := [.int .i64 rc, .int .i64 qid, .string qky, .bool qbk, .bool qot, .int .i64 qdu, .bool qdm, .string qmm, .string qhh, .string qpp, .slice rag rng rkg, .slice wag wng wkg, .slice gag gng gkg]) ?_ ?_ LF87.out ?_); exact rfl; exact rfl) | ((with_reducible refine wrR_loadG (b := x60) (vs := [.int .i64 rc, .int .i64 qid, .string qky, .bool qbk, .bool qot, .int .i64 qdu, .bool qdm, .string qmm, .string qhh, .string qpp, .slice rag rng rkg, .slice wag wng wkg, .slice gag gng gkg]) ?_ ?_ ?_ LF87.out ?_); exact rfl; exact rfl; (first | exact rfl | kernel_rfl | simp [Region.wanted, yielded])))
  clear LF82 LF84 LF85 LF87
  refine (HEQ.out _ _ _ _ _ _ _ _ _ _ _ _ _ _ _ _ _ _ _ _ _ _ _ F86.out F83.out).mono ?_
  rintro e0 w88 ⟨rfl, hb⟩
  have K89 : Hid (Below w.heap.size w w88) := K81.out.trans (hb.mono K81.out.size)
  have F90 : Hid (At w.heap.size (w.heap.size + 1) (Bx w.heap.size [.int .i64 fid, .string fky, .bool fbk, .bool fot, .int .i64 fdu, .bool fdm, .string fm, .string fh, .string fp, .slice fa fn fc, .slice ua un uc]) w88) := F82.out.keep hb
  have F91 : Hid (At l11 h12 (CR ras rns rks was wns wks gas gns gks) w88) := F83.out.keep hb
  have F92 : Hid (At x20 (x20 + 1) (Bx x20 [.int .i64 rc, .int .i64 qid, .string qky, .bool qbk, .bool qot, .int .i64 qdu, .bool qdm, .string qmm, .string qhh, .string qpp, .slice ras rns rks, .slice was wns wks, .slice gas gns gks]) w88) := F84.out.keep hb
  have F93 : Hid (At x38 (x38 + 1) (Bx x38 [.int .i64 fid, .string fky, .bool fbk, .bool fot, .int .i64 fdu, .bool fdm, .string fm, .string fh, .string fp, .slice (some ⟨K1x1, 0, none⟩) fn fn, .slice (some ⟨D1x1, 0, none⟩) un un]) w88) := F85.out.keep hb
  have F94 : Hid (At l40 h41 (CR rag rng rkg wag wng wkg gag gng gkg) w88) := F86.out.keep hb
  have F95 : Hid (At x60 (x60 + 1) (Bx x60 [.int .i64 rc, .int .i64 qid, .string qky, .bool qbk, .bool qot, .int .i64 qdu, .bool qdm, .string qmm, .string qhh, .string qpp, .slice rag rng rkg, .slice wag wng wkg, .slice gag gng gkg]) w88) := F87.out.keep hb
  clear K81 F82 F83 F84 F85 F86 F87 hb
  clear hkd
  clear F93
  have LF90 := hidL F90.out.val.1
  have LF92 := hidL F92.out.val.1
  have LF95 := hidL F95.out.val.1
  go_wp2_with (first | ((with_reducible refine flL_load (b := w.heap.size) (vs := [.int .i64 fid, .string fky, .bool fbk, .bool fot, .int .i64 fdu, .bool fdm, .string fm, .string fh, .string fp, .slice fa fn fc, .slice ua un uc]) ?_ ?_ LF90.out ?_); exact rfl; exact rfl) | ((with_reducible refine wrR_load (b := x20) (vs := [.int .i64 rc, .int .i64 qid, .string qky, .bool qbk, .bool qot, .int .i64 qdu, .bool qdm, .string qmm, .string qhh, .string qpp, .slice ras rns rks, .slice was wns wks, .slice gas gns gks]) ?_ ?_ LF92.out ?_); exact rfl; exact rfl) | ((with_reducible refine wrR_load (b := x60) (vs := [.int .i64 rc, .int .i64 qid, .string qky, .bool qbk, .bool qot, .int .i64 qdu, .bool qdm, .string qmm, .string qhh, .string qpp, .slice rag rng rkg, .slice wag wng wkg, .slice gag gng gkg]) ?_ ?_ LF95.out ?_); exact rfl; exact rfl))
  clear LF90 LF92 LF95
  refine (HMR.out _ _ _ _ _ _ _ _ _ _ _ _ K89.out F94.out (by have := SW.out; have := O16.out; have := O24.out; have := O32.out; have := O42.out; have := O52.out; omega)).mono ?_
  rintro e0 w96 ⟨rfl, mr, hg, hb⟩
  clear F94
  have K97 : Hid (Below w.heap.size w w96) := K89.out.trans hb
  have F98 : Hid (At w.heap.size (w.heap.size + 1) (Bx w.heap.size [.int .i64 fid, .string fky, .bool fbk, .bool fot, .int .i64 fdu, .bool fdm, .string fm, .string fh, .string fp, .slice fa fn fc, .slice ua un uc]) w96) := F90.out.wi hg (by have := SW.out; have := O16.out; have := O24.out; have := O32.out; have := O42.out; have := O52.out; omega)
  have F99 : Hid (At l11 h12 (CR ras rns rks was wns wks gas gns gks) w96) := F91.out.wi hg (by have := SW.out; have := O16.out; have := O24.out; have := O32.out; have := O42.out; have := O52.out; omega)
  have F100 : Hid (At x20 (x20 + 1) (Bx x20 [.int .i64 rc, .int .i64 qid, .string qky, .bool qbk, .bool qot, .int .i64 qdu, .bool qdm, .string qmm, .string qhh, .string qpp, .slice ras rns rks, .slice was wns wks, .slice gas gns gks]) w96) := F92.out.wi hg (by have := SW.out; have := O16.out; have := O24.out; have := O32.out; have := O42.out; have := O52.out; omega)
  have F101 : Hid (At x60 (x60 + 1) (Bx x60 [.int .i64 rc, .int .i64 qid, .string qky, .bool qbk, .bool qot, .int .i64 qdu, .bool qdm, .string qmm, .string qhh, .string qpp, .slice rag rng rkg, .slice wag wng wkg, .slice gag gng gkg]) w96) := F95.out.wi hg (by have := SW.out; have := O16.out; have := O24.out; have := O32.out; have := O42.out; have := O52.out; omega)
  clear K89 F90 F91 F92 F95 hg hb
  have F102 : Hid (At l40 h41 (MR rag rng rkg wag wng wkg gag gng gkg) w96) := mr
  clear mr HMR
  have LF98 := hidL F98.out.val.1
  have LF100 := hidL F100.out.val.1
  have LF101 := hidL F101.out.val.1
  go_wp2_with (first | ((with_reducible refine flL_load (b := w.heap.size) (vs := [.int .i64 fid, .string fky, .bool fbk, .bool fot, .int .i64 fdu, .bool fdm, .string fm, .string fh, .string fp, .slice fa fn fc, .slice ua un uc]) ?_ ?_ LF98.out ?_); exact rfl; exact rfl) | ((with_reducible refine wrR_load (b := x20) (vs := [.int .i64 rc, .int .i64 qid, .string qky, .bool qbk, .bool qot, .int .i64 qdu, .bool qdm, .string qmm, .string qhh, .string qpp, .slice ras rns rks, .slice was wns wks, .slice gas gns gks]) ?_ ?_ LF100.out ?_); exact rfl; exact rfl) | ((with_reducible refine wrR_load (b := x60) (vs := [.int .i64 rc, .int .i64 qid, .string qky, .bool qbk, .bool qot, .int .i64 qdu, .bool qdm, .string qmm, .string qhh, .string qpp, .slice rag rng rkg, .slice wag wng wkg, .slice gag gng gkg]) ?_ ?_ LF101.out ?_); exact rfl; exact rfl))
  clear LF98 LF100 LF101
  refine (HHR.out _ _ _ _ _ _ _ _ _ _ _ _ F102.out).mono ?_
  rintro e0 w103 ⟨rfl, hb⟩
  have K104 : Hid (Below w.heap.size w w103) := K97.out.trans (hb.mono K97.out.size)
  have F105 : Hid (At w.heap.size (w.heap.size + 1) (Bx w.heap.size [.int .i64 fid, .string fky, .bool fbk, .bool fot, .int .i64 fdu, .bool fdm, .string fm, .string fh, .string fp, .slice fa fn fc, .slice ua un uc]) w103) := F98.out.keep hb
  have F106 : Hid (At l11 h12 (CR ras rns rks was wns wks gas gns gks) w103) := F99.out.keep hb
  have F107 : Hid (At x20 (x20 + 1) (Bx x20 [.int .i64 rc, .int .i64 qid, .string qky, .bool qbk, .bool qot, .int .i64 qdu, .bool qdm, .string qmm, .string qhh, .string qpp, .slice ras rns rks, .slice was wns wks, .slice gas gns gks]) w103) := F100.out.keep hb
  have F108 : Hid (At x60 (x60 + 1) (Bx x60 [.int .i64 rc, .int .i64 qid, .string qky, .bool qbk, .bool qot, .int .i64 qdu, .bool qdm, .string qmm, .string qhh, .string qpp, .slice rag rng rkg, .slice wag wng wkg, .slice gag gng gkg]) w103) := F101.out.keep hb
  have F109 : Hid (At l40 h41 (MR rag rng rkg wag wng wkg gag gng gkg) w103) := F102.out.keep hb
  clear K97 F98 F99 F100 F101 F102 hb
  clear SW O16 O24 O32 O42 O52
  have LF105 := hidL F105.out.val.1
  have LF107 := hidL F107.out.val.1
  have LF108 := hidL F108.out.val.1
  go_wp2_with (first | ((with_reducible refine flL_load (b := w.heap.size) (vs := [.int .i64 fid, .string fky, .bool fbk, .bool fot, .int .i64 fdu, .bool fdm, .string fm, .string fh, .string fp, .slice fa fn fc, .slice ua un uc]) ?_ ?_ LF105.out ?_); exact rfl; exact rfl) | ((with_reducible refine wrR_load (b := x20) (vs := [.int .i64 rc, .int .i64 qid, .string qky, .bool qbk, .bool qot, .int .i64 qdu, .bool qdm, .string qmm, .string qhh, .string qpp, .slice ras rns rks, .slice was wns wks, .slice gas gns gks]) ?_ ?_ LF107.out ?_); exact rfl; exact rfl) | ((with_reducible refine wrR_load (b := x60) (vs := [.int .i64 rc, .int .i64 qid, .string qky, .bool qbk, .bool qot, .int .i64 qdu, .bool qdm, .string qmm, .string qhh, .string qpp, .slice rag rng rkg, .slice wag wng wkg, .slice gag gng gkg]) ?_ ?_ LF108.out ?_); exact rfl; exact rfl))
  clear LF105 LF107 LF108
  refine (HT1.out _ K104.out).mono ?_
  rintro e0 w110 ⟨⟨K1h, D1h, rfl, ca⟩, hb⟩
  have K111 : Hid (Below w.heap.size w w110) := K104.out.trans (hb.mono K104.out.size)
  have F112 : Hid (At w.heap.size (w.heap.size + 1) (Bx w.heap.size [.int .i64 fid, .string fky, .bool fbk, .bool fot, .int .i64 fdu, .bool fdm, .string fm, .string fh, .string fp, .slice fa fn fc, .slice ua un uc]) w110) := F105.out.keep hb
  have F113 : Hid (At l11 h12 (CR ras rns rks was wns wks gas gns gks) w110) := F106.out.keep hb
  have F114 : Hid (At x20 (x20 + 1) (Bx x20 [.int .i64 rc, .int .i64 qid, .string qky, .bool qbk, .bool qot, .int .i64 qdu, .bool qdm, .string qmm, .string qhh, .string qpp, .slice ras rns rks, .slice was wns wks, .slice gas gns gks]) w110) := F107.out.keep hb
  have F115 : Hid (At x60 (x60 + 1) (Bx x60 [.int .i64 rc, .int .i64 qid, .string qky, .bool qbk, .bool qot, .int .i64 qdu, .bool qdm, .string qmm, .string qhh, .string qpp, .slice rag rng rkg, .slice wag wng wkg, .slice gag gng gkg]) w110) := F108.out.keep hb
  have F116 : Hid (At l40 h41 (MR rag rng rkg wag wng wkg gag gng gkg) w110) := F109.out.keep hb
  clear K104 F105 F106 F107 F108 F109 hb
  have CA_h : Hid (At w103.heap.size w110.heap.size (CA1 K1h D1h) w110) := ca
  clear ca
  go_wp2_with fail
  refine (HG.out _ _ _ _ _ K111.out CA_h.out).mono ?_
  rintro e0 w117 ⟨⟨rah, rnh, rkh, wah, wnh, wkh, gah, gnh, gkh, rfl, cr⟩, hb⟩
  have K118 : Hid (Below w.heap.size w w117) := K111.out.trans (hb.mono K111.out.size)
  have F119 : Hid (At w.heap.size (w.heap.size + 1) (Bx w.heap.size [.int .i64 fid, .string fky, .bool fbk, .bool fot, .int .i64 fdu, .bool fdm, .string fm, .string fh, .string fp, .slice fa fn fc, .slice ua un uc]) w117) := F112.out.keep hb
  have F120 : Hid (At l11 h12 (CR ras rns rks was wns wks gas gns gks) w117) := F113.out.keep hb
  have F121 : Hid (At x20 (x20 + 1) (Bx x20 [.int .i64 rc, .int .i64 qid, .string qky, .bool qbk, .bool qot, .int .i64 qdu, .bool qdm, .string qmm, .string qhh, .string qpp, .slice ras rns rks, .slice was wns wks, .slice gas gns gks]) w117) := F114.out.keep hb
  have F122 : Hid (At x60 (x60 + 1) (Bx x60 [.int .i64 rc, .int .i64 qid, .string qky, .bool qbk, .bool qot, .int .i64 qdu, .bool qdm, .string qmm, .string qhh, .string qpp, .slice rag rng rkg, .slice wag wng wkg, .slice gag gng gkg]) w117) := F115.out.keep hb
  have F123 : Hid (At l40 h41 (MR rag rng rkg wag wng wkg gag gng gkg) w117) := F116.out.keep hb
  clear K111 F112 F113 F114 F115 F116 hb
  clear CA_h
  obtain ⟨l125, hl125⟩ : ∃ n, w110.heap.size = n := ⟨_, rfl⟩
  obtain ⟨h126, hh126⟩ : ∃ n, w117.heap.size = n := ⟨_, rfl⟩
  have F124 : Hid (At l125 h126 (CR rah rnh rkh wah wnh wkh gah gnh gkh) w117) := by rw [← hl125, ← hh126]; exact cr
  clear cr hl125 hh126
  obtain ⟨V128, hV128⟩ : ∃ V, V = w117.alloc (.cells #[.int .i64 rc, .int .i64 qid, .string qky, .bool qbk, .bool qot, .int .i64 qdu, .bool qdm, .string qmm, .string qhh, .string qpp, .slice rah rnh rkh, .slice wah wnh wkh, .slice gah gnh gkh] 49) := ⟨_, rfl⟩
  have HV128 : Hid (V128 = w117.alloc (.cells #[.int .i64 rc, .int .i64 qid, .string qky, .bool qbk, .bool qot, .int .i64 qdu, .bool qdm, .string qmm, .string qhh, .string qpp, .slice rah rnh rkh, .slice wah wnh wkh, .slice gah gnh gkh] 49)) := hV128
  have ab : Below w117.heap.size w117 V128 := by rw [hV128]; exact (Below.refl _ _).alloc (Nat.le_refl _) _
  have F129 : Hid (At w117.heap.size (w117.heap.size + 1) (Bx w117.heap.size [.int .i64 rc, .int .i64 qid, .string qky, .bool qbk, .bool qot, .int .i64 qdu, .bool qdm, .string qmm, .string qhh, .string qpp, .slice rah rnh rkh, .slice wah wnh wkh, .slice gah gnh gkh]) V128) := by rw [hV128]; exact Bx.new _ _ _
  have O130 : Hid ((w.heap.size + 1) ≤ w117.heap.size ∧ h12 ≤ w117.heap.size ∧ (x20 + 1) ≤ w117.heap.size ∧ (x60 + 1) ≤ w117.heap.size ∧ h41 ≤ w117.heap.size ∧ h126 ≤ w117.heap.size ∧ w.heap.size ≤ w117.heap.size) := ⟨F119.out.le, F120.out.le, F121.out.le, F122.out.le, F123.out.le, F124.out.le, K118.out.size⟩
  have K131 : Hid (Below w.heap.size w V128) := K118.out.trans (ab.mono K118.out.size)
  have F132 : Hid (At w.heap.size (w.heap.size + 1) (Bx w.heap.size [.int .i64 fid, .string fky, .bool fbk, .bool fot, .int .i64 fdu, .bool fdm, .string fm, .string fh, .string fp, .slice fa fn fc, .slice ua un uc]) V128) := F119.out.keep ab
  have F133 : Hid (At l11 h12 (CR ras rns rks was wns wks gas gns gks) V128) := F120.out.keep ab
  have F134 : Hid (At x20 (x20 + 1) (Bx x20 [.int .i64 rc, .int .i64 qid, .string qky, .bool qbk, .bool qot, .int .i64 qdu, .bool qdm, .string qmm, .string qhh, .string qpp, .slice ras rns rks, .slice was wns wks, .slice gas gns gks]) V128) := F121.out.keep ab
  have F135 : Hid (At x60 (x60 + 1) (Bx x60 [.int .i64 rc, .int .i64 qid, .string qky, .bool qbk, .bool qot, .int .i64 qdu, .bool qdm, .string qmm, .string qhh, .string qpp, .slice rag rng rkg, .slice wag wng wkg, .slice gag gng gkg]) V128) := F122.out.keep ab
  have F136 : Hid (At l40 h41 (MR rag rng rkg wag wng wkg gag gng gkg) V128) := F123.out.keep ab
  have F137 : Hid (At l125 h126 (CR rah rnh rkh wah wnh wkh gah gnh gkh) V128) := F124.out.keep ab
  clear K118 F119 F120 F121 F122 F123 F124
  clear ab hV128
  have LF132 := hidL F132.out.val.1
  have LF134 := hidL F134.out.val.1
  have LF135 := hidL F135.out.val.1
  have LF129 := hidL F129.out.val.1
  go_upto_region 25 with (first | ((with_reducible refine flL_load (b := w.heap.size) (vs := [.int .i64 fid, .string fky, .bool fbk, .bool fot, .int .i64 fdu, .bool fdm, .string fm, .string fh, .string fp, .slice fa fn fc, .slice ua un uc]) ?_ ?_ LF132.out ?_); exact rfl; exact rfl) | ((with_reducible refine wrR_load (b := x20) (vs := [.int .i64 rc, .int .i64 qid, .string qky, .bool qbk, .bool qot, .int .i64 qdu, .bool qdm, .string qmm, .string qhh, .string qpp, .slice ras rns rks, .slice was wns wks, .slice gas gns gks]) ?_ ?_ LF134.out ?_); exact rfl; exact rfl) | ((with_reducible refine wrR_load (b := x60) (vs := [.int .i64 rc, .int .i64 qid, .string qky, .bool qbk, .bool qot, .int .i64 qdu, .bool qdm, .string qmm, .string qhh, .string qpp, .slice rag rng rkg, .slice wag wng wkg, .slice gag gng gkg]) ?_ ?_ LF135.out ?_); exact rfl; exact rfl) | ((with_reducible refine wrR_load (b := w117.heap.size) (vs := [.int .i64 rc, .int .i64 qid, .string qky, .bool qbk, .bool qot, .int .i64 qdu, .bool qdm, .string qmm, .string qhh, .string qpp, .slice rah rnh rkh, .slice wah wnh wkh, .slice gah gnh gkh]) ?_ ?_ LF129.out ?_); exact rfl; exact rfl) | ((with_reducible refine wrR_store (c' := #[.int .i64 rc, .int .i64 qid, .string qky, .bool qbk, .bool qot, .int .i64 qdu, .bool qdm, .string qmm, .string qhh, .string qpp, .slice rah rnh rkh, .slice wah wnh wkh, .slice gah gnh gkh]) ?_ ?_ ?_ ?_ ?_ ?_); exact rfl; exact rfl; exact rfl; exact rfl; exact rfl))
  clear LF132 LF134 LF135 LF129
  rw [← HV128.out]
  clear HV128
  generalize w117.heap.size = x138 at *
  clear HG
  have LF132 := hidL F132.out.val.1
  have LF134 := hidL F134.out.val.1
  have LF135 := hidL F135.out.val.1
  have LF129 := hidL F129.out.val.1
  go_wp2_with (first | ((with_reducible refine flL_load (b := w.heap.size) (vs := [.int .i64 fid, .string fky, .bool fbk, .bool fot, .int .i64 fdu, .bool fdm, .string fm, .string fh, .string fp, .slice fa fn fc, .slice ua un uc]) ?_ ?_ LF132.out ?_); exact rfl; exact rfl) | ((with_reducible refine wrR_load (b := x20) (vs := [.int .i64 rc, .int .i64 qid, .string qky, .bool qbk, .bool qot, .int .i64 qdu, .bool qdm, .string qmm, .string qhh, .string qpp, .slice ras rns rks, .slice was wns wks, .slice gas gns gks]) ?_ ?_ LF134.out ?_); exact rfl; exact rfl) | ((with_reducible refine wrR_load (b := x60) (vs := [.int .i64 rc, .int .i64 qid, .string qky, .bool qbk, .bool qot, .int .i64 qdu, .bool qdm, .string qmm, .string qhh, .string qpp, .slice rag rng rkg, .slice wag wng wkg, .slice gag gng gkg]) ?_ ?_ LF135.out ?_); exact rfl; exact rfl) | ((with_reducible refine wrR_load (b := x138) (vs := [.int .i64 rc, .int .i64 qid, .string qky, .bool qbk, .bool qot, .int .i64 qdu, .bool qdm, .string qmm, .string qhh, .string qpp, .slice rah rnh rkh, .slice wah wnh wkh, .slice gah gnh gkh]) ?_ ?_ LF129.out ?_); exact rfl; exact rfl))
  clear LF132 LF134 LF135 LF129
  refine (HEQ.out _ _ _ _ _ _ _ _ _ _ _ _ _ _ _ _ _ _ _ _ _ _ _ F137.out F133.out).mono ?_
  rintro e0 w139 ⟨rfl, hb⟩
  have K140 : Hid (Below w.heap.size w w139) := K131.out.trans (hb.mono K131.out.size)
  have F141 : Hid (At w.heap.size (w.heap.size + 1) (Bx w.heap.size [.int .i64 fid, .string fky, .bool fbk, .bool fot, .int .i64 fdu, .bool fdm, .string fm, .string fh, .string fp, .slice fa fn fc, .slice ua un uc]) w139) := F132.out.keep hb
  have F142 : Hid (At l11 h12 (CR ras rns rks was wns wks gas gns gks) w139) := F133.out.keep hb
  have F143 : Hid (At x20 (x20 + 1) (Bx x20 [.int .i64 rc, .int .i64 qid, .string qky, .bool qbk, .bool qot, .int .i64 qdu, .bool qdm, .string qmm, .string qhh, .string qpp, .slice ras rns rks, .slice was wns wks, .slice gas gns gks]) w139) := F134.out.keep hb
  have F144 : Hid (At x60 (x60 + 1) (Bx x60 [.int .i64 rc, .int .i64 qid, .string qky, .bool qbk, .bool qot, .int .i64 qdu, .bool qdm, .string qmm, .string qhh, .string qpp, .slice rag rng rkg, .slice wag wng wkg, .slice gag gng gkg]) w139) := F135.out.keep hb
  have F145 : Hid (At l40 h41 (MR rag rng rkg wag wng wkg gag gng gkg) w139) := F136.out.keep hb
  have F146 : Hid (At l125 h126 (CR rah rnh rkh wah wnh wkh gah gnh gkh) w139) := F137.out.keep hb
  have F147 : Hid (At x138 (x138 + 1) (Bx x138 [.int .i64 rc, .int .i64 qid, .string qky, .bool qbk, .bool qot, .int .i64 qdu, .bool qdm, .string qmm, .string qhh, .string qpp, .slice rah rnh rkh, .slice wah wnh wkh, .slice gah gnh gkh]) w139) := F129.out.keep hb
  clear K131 F132 F133 F134 F135 F136 F137 F129 hb
  have LF141 := hidL F141.out.val.1
  have LF143 := hidL F143.out.val.1
  have LF144 := hidL F144.out.val.1
  have LF147 := hidL F147.out.val.1
  go_wp2_with (first | ((with_reducible refine flL_load (b := w.heap.size) (vs := [.int .i64 fid, .string fky, .bool fbk, .bool fot, .int .i64 fdu, .bool fdm, .string fm, .string fh, .string fp, .slice fa fn fc, .slice ua un uc]) ?_ ?_ LF141.out ?_); exact rfl; exact rfl) | ((with_reducible refine wrR_load (b := x20) (vs := [.int .i64 rc, .int .i64 qid, .string qky, .bool qbk, .bool qot, .int .i64 qdu, .bool qdm, .string qmm, .string qhh, .string qpp, .slice ras rns rks, .slice was wns wks, .slice gas gns gks]) ?_ ?_ LF143.out ?_); exact rfl; exact rfl) | ((with_reducible refine wrR_load (b := x60) (vs := [.int .i64 rc, .int .i64 qid, .string qky, .bool qbk, .bool qot, .int .i64 qdu, .bool qdm, .string qmm, .string qhh, .string qpp, .slice rag rng rkg, .slice wag wng wkg, .slice gag gng gkg]) ?_ ?_ LF144.out ?_); exact rfl; exact rfl) | ((with_reducible refine wrR_load (b := x138) (vs := [.int .i64 rc, .int .i64 qid, .string qky, .bool qbk, .bool qot, .int .i64 qdu, .bool qdm, .string qmm, .string qhh, .string qpp, .slice rah rnh rkh, .slice wah wnh wkh, .slice gah gnh gkh]) ?_ ?_ LF147.out ?_); exact rfl; exact rfl))
  clear LF141 LF143 LF144 LF147
  refine (HHR.out _ _ _ _ _ _ _ _ _ _ _ _ F145.out).mono ?_
  rintro e0 w148 ⟨rfl, hb⟩
  have K149 : Hid (Below w.heap.size w w148) := K140.out.trans (hb.mono K140.out.size)
  have F150 : Hid (At w.heap.size (w.heap.size + 1) (Bx w.heap.size [.int .i64 fid, .string fky, .bool fbk, .bool fot, .int .i64 fdu, .bool fdm, .string fm, .string fh, .string fp, .slice fa fn fc, .slice ua un uc]) w148) := F141.out.keep hb
  have F151 : Hid (At l11 h12 (CR ras rns rks was wns wks gas gns gks) w148) := F142.out.keep hb
  have F152 : Hid (At x20 (x20 + 1) (Bx x20 [.int .i64 rc, .int .i64 qid, .string qky, .bool qbk, .bool qot, .int .i64 qdu, .bool qdm, .string qmm, .string qhh, .string qpp, .slice ras rns rks, .slice was wns wks, .slice gas gns gks]) w148) := F143.out.keep hb
  have F153 : Hid (At x60 (x60 + 1) (Bx x60 [.int .i64 rc, .int .i64 qid, .string qky, .bool qbk, .bool qot, .int .i64 qdu, .bool qdm, .string qmm, .string qhh, .string qpp, .slice rag rng rkg, .slice wag wng wkg, .slice gag gng gkg]) w148) := F144.out.keep hb
  have F154 : Hid (At l40 h41 (MR rag rng rkg wag wng wkg gag gng gkg) w148) := F145.out.keep hb
  have F155 : Hid (At l125 h126 (CR rah rnh rkh wah wnh wkh gah gnh gkh) w148) := F146.out.keep hb
  have F156 : Hid (At x138 (x138 + 1) (Bx x138 [.int .i64 rc, .int .i64 qid, .string qky, .bool qbk, .bool qot, .int .i64 qdu, .bool qdm, .string qmm, .string qhh, .string qpp, .slice rah rnh rkh, .slice wah wnh wkh, .slice gah gnh gkh]) w148) := F147.out.keep hb
  clear K140 F141 F142 F143 F144 F145 F146 F147 hb
  go_wp2_with fail
  go_ret
  exact ⟨rfl, K149.out⟩
end Go.Proofs.YtkchefbhpbpanaaGreatDoor
/-
  Those who wait for a flight, in memory.
-/
namespace Go.Proofs.YtkchefbhpbpanaaGreatDoor
open Go.ChangeShapes Go.WideShapes Go.ChangeAt Go.RowKit
structure Wr where
  rq : Int
  hd : Bool
  du : Int
  lt : Bool
def WrAt (w : World) (b off : Nat) (l : List Wr) : Prop :=
  ∀ (i : Nat) r, l[i]? = some r → w.cell? ⟨b, off + i * 4, none⟩ = some (.int .i64 r.rq) ∧ w.cell? ⟨b, off + i * 4 + 1, none⟩ = some (.bool r.hd) ∧ w.cell? ⟨b, off + i * 4 + 2, none⟩ = some (.int .i64 r.du) ∧ w.cell? ⟨b, off + i * 4 + 3, none⟩ = some (.bool r.lt)
theorem WrAt.keep {w w' : World} {b off : Nat} {l : List Wr} (h : WrAt w b off l) (hb : Below w.heap.size w w') : WrAt w' b off l := by
  intro i r hr
  obtain ⟨p0, p1, p2, p3⟩ := h i r hr
  exact ⟨by rw [hb.cell (block_lt_of_cell p0)]; exact p0, by rw [hb.cell (block_lt_of_cell p1)]; exact p1, by rw [hb.cell (block_lt_of_cell p2)]; exact p2, by rw [hb.cell (block_lt_of_cell p3)]; exact p3⟩
/-- The slice at a holds l. -/
def WrIn (w : World) (a : Option Addr) (l : List Wr) : Prop := l = [] ∨ ∃ b off, a = some ⟨b, off, none⟩ ∧ WrAt w b off l
theorem WrIn.keep {w w' : World} {a : Option Addr} {l : List Wr} (h : WrIn w a l) (hb : Below w.heap.size w w') : WrIn w' a l := by
  rcases h with h | ⟨b, off, e, hat⟩
  · exact .inl h
  · exact .inr ⟨b, off, e, hat.keep hb⟩
theorem dropWr (l : List Wr) (k : Nat) (r : Wr) (h : l[k]? = some r) : l.drop k = r :: l.drop (k + 1) := by
  obtain ⟨hk, rfl⟩ := List.getElem?_eq_some_iff.1 h
  exact List.drop_eq_getElem_cons hk
set_option maxHeartbeats 400000 in
theorem toWr_any (r : Wr) (w : World) :
    Calls Tryz.prog 10 #[.agg #[.int .i64 r.rq, .bool r.hd, .int .i64 r.du, .bool r.lt]] w fun e w' => e = .returned (.agg #[.int .i64 r.rq, .bool r.hd, .int .i64 r.du, .bool r.lt]) ∧ Below w.heap.size w w' := by
  obtain ⟨rq, hd, du, lt⟩ := r
  simp only
  go_enter Tryz.func10, Tryz.ntmps10
  go_wp2
  exact bodyPost_ret (v := .agg #[.int .i64 rq, .bool hd, .int .i64 du, .bool lt]) (by simp [results, Tryz.results10, go_sem]) rfl ⟨rfl, (((Below.refl _ _).alloc (Nat.le_refl _) _).alloc (by simp) _).alloc (by simp; omega) _⟩
set_option maxHeartbeats 400000 in
theorem eqWr_same (r : Wr) (w : World) :
    Calls Tryz.prog 90 #[.agg #[.int .i64 r.rq, .bool r.hd, .int .i64 r.du, .bool r.lt], .agg #[.int .i64 r.rq, .bool r.hd, .int .i64 r.du, .bool r.lt]] w fun e w' => e = .returned (.bool true) ∧ Below w.heap.size w w' := by
  obtain ⟨rq, hd, du, lt⟩ := r
  simp only
  go_enter Tryz.func90, Tryz.ntmps90
  go_wp2
  go_ret
  exact ⟨rfl, ((Below.refl _ _).alloc (Nat.le_refl _) _).alloc (by simp) _⟩
def szWr (left : Int) (n : Nat) : Int := if left - (n : Int) < 0 then -1 else left - (n : Int)
set_option maxHeartbeats 400000 in
theorem szWr_any (w : World) (a : Option Addr) (cap n : Nat) (hl : n ≤ maxLen) (left : Int) (h0 : 0 ≤ left) (h1 : left ≤ 1048576) :
    Calls Tryz.prog 37 #[.slice a n cap, .int .i64 left] w fun e w' => e = .returned (.int .i64 (szWr left n)) ∧ w' = w := by
  unfold maxLen at hl
  by_cases c0 : left - (n : Int) < 0
  · have HE : Hid (szWr left n = -1) := by show _ = _; unfold szWr; rw [if_pos c0]
    go_enter Tryz.func37, Tryz.ntmps37
    go_wp2
    go_ret
    exact ⟨ret_int HE.out.symm, rfl⟩
  · have HE : Hid (szWr left n = left - (n : Int)) := by show _ = _; unfold szWr; rw [if_neg c0]
    have c0' : 0 ≤ left - (n : Int) := by omega
    go_enter Tryz.func37, Tryz.ntmps37
    go_wp2
    go_ret
    exact ⟨ret_int HE.out.symm, rfl⟩
theorem szWr_room {left : Int} {n : Nat} (h1 : left ≤ 1048576) (h : ¬ szWr left n < 0) : (n : Int) ≤ 1048576 ∧ szWr left n ≤ left ∧ 0 ≤ szWr left n := by
  unfold szWr at h ⊢
  by_cases c0 : left - (n : Int) < 0
  · rw [if_pos c0] at h; omega
  · rw [if_neg c0] at h ⊢; omega
end Go.Proofs.YtkchefbhpbpanaaGreatDoor
/-
  The laws' copy of a list, and their comparing of two.
-/
namespace Go.Proofs.YtkchefbhpbpanaaGreatDoor
open Go.ChangeShapes Go.WideShapes Go.ChangeAt Go.RowKit Go.Sort
/-- m cells from the head of block G on are there and may be written. -/
def RoomWr (w : World) (G m : Nat) : Prop := ∀ j, j < m → (∃ u, w.cell? ⟨G, j, none⟩ = some u) ∧ w.frozen? ⟨G, j, none⟩ = false
theorem RoomWr.keep {w w' : World} {G m : Nat} (h : RoomWr w G m) (hb : Below w.heap.size w w') : RoomWr w' G m := by
  intro j hj
  obtain ⟨⟨u, hu⟩, hf⟩ := h j hj
  exact ⟨⟨u, by rw [hb.cell (block_lt_of_cell hu)]; exact hu⟩, by rw [hb.frozen (block_lt_of_cell hu)]; exact hf⟩
theorem RoomWr.set {w : World} {G m : Nat} (h : RoomWr w G m) (a : Addr) (v : Value) : RoomWr (w.setCell a v) G m := by
  intro j hj
  obtain ⟨⟨u, hu⟩, hf⟩ := h j hj
  refine ⟨?_, by rw [World.frozen?_setCell]; exact hf⟩
  by_cases e : a = ⟨G, j, none⟩
  · exact ⟨v, by subst e; exact World.cell?_setCell_same _ _ _ hu⟩
  · exact ⟨u, by rw [World.cell?_setCell_other _ _ _ _ e]; exact hu⟩
def putWr (w : World) (G k : Nat) (r : Wr) : World := (((w.setCell ⟨G, k * 4, none⟩ (.int .i64 r.rq)).setCell ⟨G, k * 4 + 1, none⟩ (.bool r.hd)).setCell ⟨G, k * 4 + 2, none⟩ (.int .i64 r.du)).setCell ⟨G, k * 4 + 3, none⟩ (.bool r.lt)
theorem offWr_ne {G i j : Nat} (h : i ≠ j) : (⟨G, i, none⟩ : Addr) ≠ ⟨G, j, none⟩ := fun e => h (congrArg Addr.off e)
theorem putWr_other (w : World) (G k : Nat) (r : Wr) (j : Nat) (h0 : k * 4 ≠ j) (h1 : k * 4 + 1 ≠ j) (h2 : k * 4 + 2 ≠ j) (h3 : k * 4 + 3 ≠ j) : (putWr w G k r).cell? ⟨G, j, none⟩ = w.cell? ⟨G, j, none⟩ := by
  unfold putWr
  rw [World.cell?_setCell_other _ _ _ _ (offWr_ne h3), World.cell?_setCell_other _ _ _ _ (offWr_ne h2), World.cell?_setCell_other _ _ _ _ (offWr_ne h1), World.cell?_setCell_other _ _ _ _ (offWr_ne h0)]
theorem RoomWr.put {w : World} {G m : Nat} (h : RoomWr w G m) (k : Nat) (r : Wr) : RoomWr (putWr w G k r) G m := (((h.set _ _).set _ _).set _ _).set _ _
theorem WrAt.put {w : World} {G n : Nat} {l : List Wr} {k : Nat} {r : Wr} (h : WrAt w G 0 (l.take k)) (hr : l[k]? = some r) (hm : RoomWr w G (n * 4)) (hk : k < n) : WrAt (putWr w G k r) G 0 (l.take (k + 1)) := by
  intro i q hq
  have hi : i < k + 1 := by
    have := (List.getElem?_eq_some_iff.1 hq).1
    simp at this; omega
  rw [List.getElem?_take_of_lt hi] at hq
  simp only [Nat.zero_add]
  by_cases e : i = k
  · subst e
    rw [hr] at hq
    obtain rfl := Option.some.inj hq
    obtain ⟨⟨u0, g0⟩, _⟩ := hm (i * 4) (by omega)
    obtain ⟨⟨u1, g1⟩, _⟩ := (hm.set ⟨G, i * 4, none⟩ (.int .i64 r.rq)) (i * 4 + 1) (by omega)
    obtain ⟨⟨u2, g2⟩, _⟩ := ((hm.set ⟨G, i * 4, none⟩ (.int .i64 r.rq)).set ⟨G, i * 4 + 1, none⟩ (.bool r.hd)) (i * 4 + 2) (by omega)
    obtain ⟨⟨u3, g3⟩, _⟩ := (((hm.set ⟨G, i * 4, none⟩ (.int .i64 r.rq)).set ⟨G, i * 4 + 1, none⟩ (.bool r.hd)).set ⟨G, i * 4 + 2, none⟩ (.int .i64 r.du)) (i * 4 + 3) (by omega)
    unfold putWr
    exact ⟨by rw [World.cell?_setCell_other _ _ _ _ (offWr_ne (by omega)), World.cell?_setCell_other _ _ _ _ (offWr_ne (by omega)), World.cell?_setCell_other _ _ _ _ (offWr_ne (by omega))]; exact World.cell?_setCell_same _ _ _ g0, by rw [World.cell?_setCell_other _ _ _ _ (offWr_ne (by omega)), World.cell?_setCell_other _ _ _ _ (offWr_ne (by omega))]; exact World.cell?_setCell_same _ _ _ g1, by rw [World.cell?_setCell_other _ _ _ _ (offWr_ne (by omega))]; exact World.cell?_setCell_same _ _ _ g2, by exact World.cell?_setCell_same _ _ _ g3⟩
  · have hq2 : (l.take k)[i]? = some q := by rw [List.getElem?_take_of_lt (by omega)]; exact hq
    obtain ⟨a0, a1, a2, a3⟩ := h i q hq2
    simp only [Nat.zero_add] at a0 a1 a2 a3
    exact ⟨by rw [putWr_other _ _ _ _ _ (by omega) (by omega) (by omega) (by omega)]; exact a0, by rw [putWr_other _ _ _ _ _ (by omega) (by omega) (by omega) (by omega)]; exact a1, by rw [putWr_other _ _ _ _ _ (by omega) (by omega) (by omega) (by omega)]; exact a2, by rw [putWr_other _ _ _ _ _ (by omega) (by omega) (by omega) (by omega)]; exact a3⟩
theorem infoWr : (Tryz.prog.info? 41).map (fun i => (i.zero, i.size, i.bytes)) = some (some (.agg #[.int .i64 0, .bool false, .int .i64 0, .bool false]), 4, 32) := by kernel_rfl
set_option maxHeartbeats 2000000 in
theorem toWrS_any (w : World) (a : Option Addr) (cap : Nat) (l : List Wr) (hl : l.length ≤ 1048576) (hi : WrIn w a l) :
    Calls Tryz.prog 43 #[.slice a l.length cap] w fun e w' => e = .returned (.slice (some ⟨w.heap.size, 0, none⟩) l.length l.length) ∧ WrAt w' w.heap.size 0 l ∧ RoomWr w' w.heap.size (l.length * 4) ∧ w.heap.size < w'.heap.size ∧ Below w.heap.size w w' := by
  have HI : Hid (WrIn w a l) := hi
  obtain ⟨i0, hi0, hz0, hz1, hz2⟩ := info_parts infoWr
  clear hi
  generalize hn : l.length = n at *
  have HN : Hid (l.length = n) := hn
  clear hn
  go_enter Tryz.func43, Tryz.ntmps43
  go_wp2_with (at_make; refine wpList_make_full w rfl _ _ 34 rfl w.heap.size 41 i0 _ 4 Tryz.underlying34 hi0 hz0 hz1 _ _ _ _ n rfl rfl rfl rfl (by rw [hz2]; omega) (by unfold maxLen; omega) (Nat.le_refl _) ?_; intro w1 hown hgrow)
  have HR1 : Hid (RoomWr w1 w.heap.size (n * 4) ∧ w.heap.size < w1.heap.size ∧ Below w.heap.size w w1) := by
    refine ⟨fun j hj => ⟨?_, hown.frozenAt j⟩, (hown.lt _ rfl).2, (Below.refl _ _).grown hgrow (Nat.le_refl _) (fun q hq => by cases hq)⟩
    have h1 := hown.cellAt j hj
    have h2 : j < (madeCells (Value.agg #[.int .i64 0, .bool false, .int .i64 0, .bool false]).cells (n * 4)).toList.length := by have := hown.1; omega
    exact ⟨_, h1.trans (List.getElem?_eq_getElem h2)⟩
  clear hown hgrow
  go_loopw [4] (fun i wr => ∃ k : Nat, k ≤ n ∧ i = .int .i64 k ∧ WrAt wr w.heap.size 0 (l.take k) ∧ RoomWr wr w.heap.size (n * 4) ∧ w.heap.size < wr.heap.size ∧ Below w.heap.size w wr) (fun i _ => n - (intOf i).toNat)
  case atStart => exact ⟨0, Nat.zero_le _, rfl, fun i r hr => by simp at hr, HR1.out.1, HR1.out.2.1, HR1.out.2.2⟩
  case round =>
    obtain ⟨k, hk, rfl, hat, hroom, hup, hb⟩ := hrel
    clear HR1
    by_cases hlt : k < n
    · obtain ⟨r, hr⟩ : ∃ r, l[k]? = some r := ⟨l[k]'(by have := HN.out; omega), List.getElem?_eq_getElem _⟩
      rcases HI.out with h | ⟨b, off, rfl, hsrc⟩
      · subst h; simp at hr
      have hblt : b < w.heap.size := block_lt_of_cell (hsrc k r hr).1
      obtain ⟨q0, q1, q2, q3⟩ := hsrc k r hr
      have p0 : wr.cell? ⟨b, off + k * 4, none⟩ = some (.int .i64 r.rq) := by rw [hb.cell (p := ⟨b, off + k * 4, none⟩) hblt]; exact q0
      have p1 : wr.cell? ⟨b, off + k * 4 + 1, none⟩ = some (.bool r.hd) := by rw [hb.cell (p := ⟨b, off + k * 4 + 1, none⟩) hblt]; exact q1
      have p2 : wr.cell? ⟨b, off + k * 4 + 2, none⟩ = some (.int .i64 r.du) := by rw [hb.cell (p := ⟨b, off + k * 4 + 2, none⟩) hblt]; exact q2
      have p3 : wr.cell? ⟨b, off + k * 4 + 3, none⟩ = some (.bool r.lt) := by rw [hb.cell (p := ⟨b, off + k * 4 + 3, none⟩) hblt]; exact q3
      have HA : Hid (WrAt wr w.heap.size 0 (l.take k)) := hat
      have HM : Hid (RoomWr wr w.heap.size (n * 4)) := hroom
      have HR : Hid (l[k]? = some r) := hr
      have g : (k : Int) < n := by omega
      clear hat hroom hr hsrc q0 q1 q2 q3 HI
      go_wp2_with fail
      refine (toWr_any r _).mono ?_
      rintro e w2 ⟨rfl, hb2⟩
      have HA2 : Hid (WrAt w2 w.heap.size 0 (l.take k)) := HA.out.keep hb2
      have HM2 : Hid (RoomWr w2 w.heap.size (n * 4)) := HM.out.keep hb2
      have hbb : Below w.heap.size w w2 := hb.trans (hb2.mono hb.size)
      have hup2 : w.heap.size < w2.heap.size := Nat.lt_of_lt_of_le hup hb2.size
      obtain ⟨⟨u0, g0⟩, f0⟩ := HM2.out (k * 4) (by omega)
      obtain ⟨⟨u1, g1⟩, f1⟩ := HM2.out (k * 4 + 1) (by omega)
      obtain ⟨⟨u2, g2⟩, f2⟩ := HM2.out (k * 4 + 2) (by omega)
      obtain ⟨⟨u3, g3⟩, f3⟩ := HM2.out (k * 4 + 3) (by omega)
      have HP : Hid (WrAt (putWr w2 w.heap.size k r) w.heap.size 0 (l.take (k + 1)) ∧ RoomWr (putWr w2 w.heap.size k r) w.heap.size (n * 4)) := ⟨HA2.out.put HR.out HM2.out hlt, HM2.out.put k r⟩
      clear HA HM HA2 HM2 hb2 hb p0 p1 p2 p3
      obtain ⟨rrq, rhd, rdu, rlt⟩ := r
      go_wp2_with fail
      go_roundw
      case rel => exact ⟨k + 1, by omega, by go_num, HP.out.1, HP.out.2, by simpa using hup2, (((hbb.setCell (Nat.le_refl _) _).setCell (Nat.le_refl _) _).setCell (Nat.le_refl _) _).setCell (Nat.le_refl _) _⟩
      case measure => simp [intOf]; omega
    · have HF : Hid (WrAt wr w.heap.size 0 l ∧ RoomWr wr w.heap.size (n * 4)) := by
        have e : l.take k = l := List.take_of_length_le (by have := HN.out; omega)
        rw [e] at hat
        exact ⟨hat, hroom⟩
      clear hat hroom
      go_wp2_with fail
      go_ret
      exact ⟨rfl, HF.out.1, HF.out.2, hup, hb⟩
set_option maxRecDepth 100000 in
set_option maxHeartbeats 2000000 in
theorem eqWrS_same (w : World) (a1 a2 : Option Addr) (c1 c2 : Nat) (l : List Wr) (hl : l.length ≤ 1048576) (h1 : WrIn w a1 l) (h2 : WrIn w a2 l) :
    Calls Tryz.prog 51 #[.slice a1 l.length c1, .slice a2 l.length c2] w fun e w' => e = .returned (.bool true) ∧ Below w.heap.size w w' := by
  have H1 : Hid (WrIn w a1 l) := h1
  have H2 : Hid (WrIn w a2 l) := h2
  clear h1 h2
  generalize hn : l.length = n at *
  have HN : Hid (l.length = n) := hn
  clear hn
  go_enter Tryz.func51, Tryz.ntmps51
  go_wp2_with fail
  go_loopw [5] (fun i wr => ∃ k : Nat, k ≤ n ∧ i = .int .i64 k ∧ Below w.heap.size w wr) (fun i _ => n - (intOf i).toNat)
  case atStart => exact ⟨0, Nat.zero_le _, rfl, Below.refl _ _⟩
  case round =>
    obtain ⟨k, hk, rfl, hb⟩ := hrel
    by_cases hlt : k < n
    · obtain ⟨r, hr⟩ : ∃ r, l[k]? = some r := ⟨l[k]'(by have := HN.out; omega), List.getElem?_eq_getElem _⟩
      rcases (H1.out.keep hb) with h | ⟨b1, o1, rfl, at1⟩
      · subst h; simp at hr
      rcases (H2.out.keep hb) with h | ⟨b2, o2, rfl, at2⟩
      · subst h; simp at hr
      obtain ⟨p0, p1, p2, p3⟩ := at1 k r hr
      obtain ⟨q0, q1, q2, q3⟩ := at2 k r hr
      have x0 := cell_regrown p0
      have y0 := cell_regrown q0
      have x1 := cell_regrown p1
      have y1 := cell_regrown q1
      have x2 := cell_regrown p2
      have y2 := cell_regrown q2
      have x3 := cell_regrown p3
      have y3 := cell_regrown q3
      have cE : ∀ d os, Calls Tryz.prog 90 #[.agg #[.int .i64 r.rq, .bool r.hd, .int .i64 r.du, .bool r.lt], .agg #[.int .i64 r.rq, .bool r.hd, .int .i64 r.du, .bool r.lt]] (grow (redrawn wr d) os) fun e w'' => e = .returned (.bool true) ∧ ∃ p : Regrown, w'' = grow (redrawn wr p.d) p.os := fun d os => Calls.regrown_of (eqWr_same r _)
      have g0 : (0 : Int) ≤ k := by omega
      have g : (k : Int) < n := by omega
      clear hr p0 p1 p2 p3 q0 q1 q2 q3 at1 at2
      generalize r.rq = rrq at *
      generalize r.hd = rhd at *
      generalize r.du = rdu at *
      generalize r.lt = rlt at *
      go_wp2_with fail
      refine wp_region_quiet_below (by kernel_rfl) (by kernel_rfl) ?_
      repeat (go_big_quiet_step ((go_at_call 90; exact cE _ _)))
      refine wpQuiet_nil ?_
      intro w2 hw2
      have hbb : Below w.heap.size w w2 := by
        obtain ⟨⟨d, os⟩, rfl⟩ := hw2
        exact hb.trans ((below_regrown wr d os).mono hb.size)
      clear x0 y0 x1 y1 x2 y2 x3 y3 cE hw2 hb
      go_wp2_with fail
      go_roundw
      case rel => exact ⟨k + 1, by omega, by go_num, hbb⟩
      case measure => simp [intOf]; omega
    · go_wp2_with fail
      go_ret
      exact ⟨rfl, hb⟩
end Go.Proofs.YtkchefbhpbpanaaGreatDoor
/-
  Head lines in memory; the laws' own helpers over them.
-/
namespace Go.Proofs.YtkchefbhpbpanaaGreatDoor
open Go.ChangeShapes Go.WideShapes Go.ChangeAt Go.RowKit
/-- A head line: its name and its value. -/
structure Hdr where
  name : ByteArray
  value : ByteArray
/-- The lines l lie in block b from off on, two cells each. -/
def HeadsAt (w : World) (b off : Nat) (l : List Hdr) : Prop :=
  ∀ (i : Nat) r, l[i]? = some r → w.cell? ⟨b, off + i * 2, none⟩ = some (.string r.name) ∧ w.cell? ⟨b, off + i * 2 + 1, none⟩ = some (.string r.value)
def hdrV (r : Hdr) : Value := .agg #[.string r.name, .string r.value]
def szH (left : Int) (r : Hdr) : Int := if left - (r.name.size : Int) < 0 then -1 else if left - (r.name.size : Int) - (r.value.size : Int) < 0 then -1 else left - (r.name.size : Int) - (r.value.size : Int)
set_option maxHeartbeats 400000 in
theorem szHeader_any (r : Hdr) (left : Int) (w : World) (h0 : 0 ≤ left) (h1 : left ≤ 1048576) (z1 : r.name.size ≤ maxLen) (z2 : r.value.size ≤ maxLen) :
    Calls Tryz.prog 107 #[.agg #[.string r.name, .string r.value], .int .i64 left] w fun e w' => e = .returned (.int .i64 (szH left r)) ∧ Below w.heap.size w w' := by
  unfold maxLen at z1 z2
  obtain ⟨n, v⟩ := r
  simp only at z1 z2 ⊢
  by_cases c1 : left - (n.size : Int) < 0
  · have HE : Hid (szH left ⟨n, v⟩ = -1) := by show _ = _; simp [szH, c1]
    go_enter Tryz.func107, Tryz.ntmps107
    go_wp2
    go_ret
    exact ⟨ret_int HE.out.symm, (Below.refl _ _).alloc (Nat.le_refl _) _⟩
  · by_cases c2 : left - (n.size : Int) - (v.size : Int) < 0
    · have HE : Hid (szH left ⟨n, v⟩ = -1) := by show _ = _; simp [szH, c1, c2]
      go_enter Tryz.func107, Tryz.ntmps107
      go_wp2
      go_ret
      exact ⟨ret_int HE.out.symm, (Below.refl _ _).alloc (Nat.le_refl _) _⟩
    · have HE : Hid (szH left ⟨n, v⟩ = left - (n.size : Int) - (v.size : Int)) := by show _ = _; simp [szH, c1, c2]
      go_enter Tryz.func107, Tryz.ntmps107
      go_wp2
      go_ret
      exact ⟨ret_int HE.out.symm, (Below.refl _ _).alloc (Nat.le_refl _) _⟩
set_option maxHeartbeats 400000 in
theorem toHeader_any (r : Hdr) (w : World) :
    Calls Tryz.prog 109 #[.agg #[.string r.name, .string r.value]] w fun e w' => e = .returned (.agg #[.string r.name, .string r.value]) ∧ Below w.heap.size w w' := by
  obtain ⟨n, v⟩ := r
  simp only
  go_enter Tryz.func109, Tryz.ntmps109
  go_wp2
  exact bodyPost_ret (v := .agg #[.string n, .string v]) (by simp [results, Tryz.results109, go_sem]) rfl ⟨rfl, (((Below.refl _ _).alloc (Nat.le_refl _) _).alloc (by simp) _).alloc (by simp; omega) _⟩
set_option maxHeartbeats 400000 in
theorem eqHeader_same (r : Hdr) (w : World) :
    Calls Tryz.prog 112 #[.agg #[.string r.name, .string r.value], .agg #[.string r.name, .string r.value]] w fun e w' => e = .returned (.bool true) ∧ Below w.heap.size w w' := by
  obtain ⟨n, v⟩ := r
  simp only
  go_enter Tryz.func112, Tryz.ntmps112
  go_wp2
  go_ret
  exact ⟨rfl, ((Below.refl _ _).alloc (Nat.le_refl _) _).alloc (by simp) _⟩
/-- How much room is left behind the items; -1: none. -/
def szHs (left : Int) : List Hdr → Int
  | [] => left
  | r :: l => if szH left r < 0 then -1 else szHs (szH left r) l
def szHL (left : Int) (l : List Hdr) : Int := if left - (l.length : Int) < 0 then -1 else szHs (left - (l.length : Int)) l
def SmallHdrs (l : List Hdr) : Prop := ∀ (i : Nat) r, l[i]? = some r → r.name.size ≤ maxLen ∧ r.value.size ≤ maxLen
theorem HeadsAt.keep {w w' : World} {b off : Nat} {l : List Hdr} (h : HeadsAt w b off l) (hb : Below w.heap.size w w') : HeadsAt w' b off l := by
  intro i r hr
  obtain ⟨a1, a3⟩ := h i r hr
  exact ⟨by rw [hb.cell (block_lt_of_cell a1)]; exact a1, by rw [hb.cell (block_lt_of_cell a3)]; exact a3⟩
theorem szH_le (left : Int) (r : Hdr) : szH left r ≤ left ∨ szH left r = -1 := by
  unfold szH
  split
  · exact .inr rfl
  · split
    · exact .inr rfl
    · left; omega
theorem drop_hdr (l : List Hdr) (k : Nat) (r : Hdr) (h : l[k]? = some r) : l.drop k = r :: l.drop (k + 1) := by
  obtain ⟨hk, rfl⟩ := List.getElem?_eq_some_iff.1 h
  exact List.drop_eq_getElem_cons hk
set_option maxHeartbeats 2000000 in
theorem szHeaderS_any (w : World) (a : Option Addr) (cap : Nat) (l : List Hdr) (hl : l.length ≤ maxLen) (hi : l = [] ∨ ∃ b off, a = some ⟨b, off, none⟩ ∧ HeadsAt w b off l) (hz : SmallHdrs l) (left : Int) (h0 : 0 ≤ left) (h1 : left ≤ 1048576) :
    Calls Tryz.prog 82 #[.slice a l.length cap, .int .i64 left] w fun e w' => e = .returned (.int .i64 (szHL left l)) ∧ Below w.heap.size w w' := by
  unfold maxLen at hl
  have HI : Hid (l = [] ∨ ∃ b off, a = some ⟨b, off, none⟩ ∧ HeadsAt w b off l) := hi
  have HZ : Hid (SmallHdrs l) := hz
  clear hi hz
  generalize hn : l.length = n at *
  have HN : Hid (l.length = n) := hn
  by_cases c0 : left - (n : Int) < 0
  · have HE : Hid (szHL left l = -1) := by show _ = _; unfold szHL; rw [hn, if_pos c0]
    clear hn
    go_enter Tryz.func82, Tryz.ntmps82
    go_wp2
    go_ret
    exact ⟨ret_int HE.out.symm, Below.refl _ _⟩
  have HE : Hid (szHL left l = szHs (left - (n : Int)) l) := by show _ = _; unfold szHL; rw [hn, if_neg c0]
  have c0' : 0 ≤ left - (n : Int) := by omega
  clear hn
  go_enter Tryz.func82, Tryz.ntmps82
  go_wp2_with fail
  go_loopw [1, 5] (fun x i wr => ∃ (k : Nat) (c : Int), k ≤ n ∧ i = .int .i64 k ∧ x = .int .i64 c ∧ 0 ≤ c ∧ c ≤ 1048576 ∧ szHL left l = szHs c (l.drop k) ∧ Below w.heap.size w wr) (fun _ i _ => n - (intOf i).toNat)
  case atStart => exact ⟨0, left - (n : Int), Nat.zero_le _, rfl, rfl, c0', by omega, HE.out, Below.refl _ _⟩
  case round =>
    obtain ⟨k, c, hk, rfl, rfl, c2, c3, hs, hb⟩ := hrel
    have HS : Hid (szHL left l = szHs c (l.drop k)) := hs
    clear hs HE
    by_cases hlt : k < n
    · obtain ⟨r, hr⟩ : ∃ r, l[k]? = some r := ⟨l[k]'(by have := HN.out; omega), List.getElem?_eq_getElem _⟩
      rcases HI.out with h | ⟨b, off, rfl, hat⟩
      · subst h; simp at hr
      obtain ⟨p1, p3⟩ := (hat.keep hb) k r hr
      obtain ⟨z1, z2⟩ := HZ.out k r hr
      have HS2 : Hid (szHL left l = if szH c r < 0 then -1 else szHs (szH c r) (l.drop (k + 1))) := by
        show _ = _
        rw [HS.out, drop_hdr l k r hr, szHs]
      have HC : Hid (∀ w, Calls Tryz.prog 107 #[.agg #[.string r.name, .string r.value], .int .i64 c] w fun e w' => e = .returned (.int .i64 (szH c r)) ∧ Below w.heap.size w w') := fun w => szHeader_any r c w c2 c3 z1 z2
      have hle := szH_le c r
      have g : (k : Int) < n := by omega
      clear HS hr hat z1 z2 HI
      generalize szH c r = d at *
      generalize r.name = rn at *
      generalize r.value = rv at *
      go_wp2_with fail
      refine (HC.out _).mono ?_
      rintro e w2 ⟨rfl, hb2⟩
      have hbb : Below w.heap.size w w2 := hb.trans (hb2.mono hb.size)
      clear hb2 hb p1 p3 HC
      by_cases hd : d < 0
      · have HF : Hid (szHL left l = -1) := by show _ = _; rw [HS2.out, if_pos hd]
        clear HS2
        go_wp2_with fail
        go_ret
        exact ⟨ret_int HF.out.symm, hbb⟩
      · have HF : Hid (szHL left l = szHs d (l.drop (k + 1))) := by show _ = _; rw [HS2.out, if_neg hd]
        clear HS2
        go_wp2_with fail
        go_roundw
        case rel => exact ⟨k + 1, d, by omega, by go_num, rfl, by omega, by omega, HF.out, hbb⟩
        case measure => simp [intOf]; omega
    · have HF : Hid (szHL left l = c) := by
        show _ = _
        rw [HS.out, List.drop_of_length_le (by have := HN.out; omega), szHs]
      clear HS
      go_wp2_with fail
      go_ret
      exact ⟨ret_int HF.out.symm, hb⟩
end Go.Proofs.YtkchefbhpbpanaaGreatDoor
/-
  The laws' copy of a list of items, and their comparing of two.
-/
namespace Go.Proofs.YtkchefbhpbpanaaGreatDoor
open Go.ChangeShapes Go.WideShapes Go.ChangeAt Go.RowKit Go.Sort
/-- m cells from the head of block G on are there and may be written. -/
def HRoom (w : World) (G m : Nat) : Prop := ∀ j, j < m → (∃ u, w.cell? ⟨G, j, none⟩ = some u) ∧ w.frozen? ⟨G, j, none⟩ = false
theorem HRoom.keep {w w' : World} {G m : Nat} (h : HRoom w G m) (hb : Below w.heap.size w w') : HRoom w' G m := by
  intro j hj
  obtain ⟨⟨u, hu⟩, hf⟩ := h j hj
  exact ⟨⟨u, by rw [hb.cell (block_lt_of_cell hu)]; exact hu⟩, by rw [hb.frozen (block_lt_of_cell hu)]; exact hf⟩
theorem HRoom.set {w : World} {G m : Nat} (h : HRoom w G m) (a : Addr) (v : Value) : HRoom (w.setCell a v) G m := by
  intro j hj
  obtain ⟨⟨u, hu⟩, hf⟩ := h j hj
  refine ⟨?_, by rw [World.frozen?_setCell]; exact hf⟩
  by_cases e : a = ⟨G, j, none⟩
  · exact ⟨v, by subst e; exact World.cell?_setCell_same _ _ _ hu⟩
  · exact ⟨u, by rw [World.cell?_setCell_other _ _ _ _ e]; exact hu⟩
def put2 (w : World) (G k : Nat) (r : Hdr) : World := (w.setCell ⟨G, k * 2, none⟩ (.string r.name)).setCell ⟨G, k * 2 + 1, none⟩ (.string r.value)
theorem hoff_ne {G i j : Nat} (h : i ≠ j) : (⟨G, i, none⟩ : Addr) ≠ ⟨G, j, none⟩ := fun e => h (congrArg Addr.off e)
theorem put2_other (w : World) (G k : Nat) (r : Hdr) (j : Nat) (h0 : k * 2 ≠ j) (h1 : k * 2 + 1 ≠ j) : (put2 w G k r).cell? ⟨G, j, none⟩ = w.cell? ⟨G, j, none⟩ := by
  unfold put2
  rw [World.cell?_setCell_other _ _ _ _ (hoff_ne h1), World.cell?_setCell_other _ _ _ _ (hoff_ne h0)]
theorem HRoom.put {w : World} {G m : Nat} (h : HRoom w G m) (k : Nat) (r : Hdr) : HRoom (put2 w G k r) G m := (h.set _ _).set _ _
theorem HeadsAt.put {w : World} {G n : Nat} {l : List Hdr} {k : Nat} {r : Hdr} (h : HeadsAt w G 0 (l.take k)) (hr : l[k]? = some r) (hm : HRoom w G (n * 2)) (hk : k < n) : HeadsAt (put2 w G k r) G 0 (l.take (k + 1)) := by
  intro i q hq
  have hi : i < k + 1 := by
    have := (List.getElem?_eq_some_iff.1 hq).1
    simp at this; omega
  rw [List.getElem?_take_of_lt hi] at hq
  simp only [Nat.zero_add]
  by_cases e : i = k
  · subst e
    rw [hr] at hq
    obtain rfl := Option.some.inj hq
    obtain ⟨⟨u0, g0⟩, _⟩ := hm (i * 2) (by omega)
    obtain ⟨⟨u1, g1⟩, _⟩ := (hm.set ⟨G, i * 2, none⟩ (.string r.name)) (i * 2 + 1) (by omega)
    unfold put2
    refine ⟨?_, World.cell?_setCell_same _ _ _ g1⟩
    rw [World.cell?_setCell_other _ _ _ _ (hoff_ne (by omega))]
    exact World.cell?_setCell_same _ _ _ g0
  · have hq2 : (l.take k)[i]? = some q := by rw [List.getElem?_take_of_lt (by omega)]; exact hq
    obtain ⟨a1, a3⟩ := h i q hq2
    simp only [Nat.zero_add] at a1 a3
    exact ⟨by rw [put2_other _ _ _ _ _ (by omega) (by omega)]; exact a1, by rw [put2_other _ _ _ _ _ (by omega) (by omega)]; exact a3⟩
theorem infoHeader : (Tryz.prog.info? 153).map (fun i => (i.zero, i.size, i.bytes)) = some (some (.agg #[.string ⟨#[]⟩, .string ⟨#[]⟩]), 2, 32) := by kernel_rfl
set_option maxHeartbeats 2000000 in
theorem toHeaderS_any (w : World) (a : Option Addr) (cap : Nat) (l : List Hdr) (hl : l.length ≤ 1048576) (hi : l = [] ∨ ∃ b off, a = some ⟨b, off, none⟩ ∧ HeadsAt w b off l) :
    Calls Tryz.prog 84 #[.slice a l.length cap] w fun e w' => e = .returned (.slice (some ⟨w.heap.size, 0, none⟩) l.length l.length) ∧ HeadsAt w' w.heap.size 0 l ∧ Below w.heap.size w w' := by
  have HI : Hid (l = [] ∨ ∃ b off, a = some ⟨b, off, none⟩ ∧ HeadsAt w b off l) := hi
  obtain ⟨i0, hi0, hz0, hz1, hz2⟩ := info_parts infoHeader
  clear hi
  generalize hn : l.length = n at *
  have HN : Hid (l.length = n) := hn
  clear hn
  go_enter Tryz.func84, Tryz.ntmps84
  go_wp2_with (at_make; refine wpList_make_full w rfl _ _ 31 rfl w.heap.size 153 i0 _ 2 Tryz.underlying31 hi0 hz0 hz1 _ _ _ _ n rfl rfl rfl rfl (by rw [hz2]; omega) (by unfold maxLen; omega) (Nat.le_refl _) ?_; intro w1 hown hgrow)
  have HR1 : Hid (HRoom w1 w.heap.size (n * 2) ∧ Below w.heap.size w w1) := by
    refine ⟨fun j hj => ⟨?_, hown.frozenAt j⟩, (Below.refl _ _).grown hgrow (Nat.le_refl _) (fun q hq => by cases hq)⟩
    have h1 := hown.cellAt j hj
    have h2 : j < (madeCells (Value.agg #[.string ⟨#[]⟩, .string ⟨#[]⟩]).cells (n * 2)).toList.length := by have := hown.1; omega
    exact ⟨_, h1.trans (List.getElem?_eq_getElem h2)⟩
  clear hown hgrow
  go_loopw [4] (fun i wr => ∃ k : Nat, k ≤ n ∧ i = .int .i64 k ∧ HeadsAt wr w.heap.size 0 (l.take k) ∧ HRoom wr w.heap.size (n * 2) ∧ Below w.heap.size w wr) (fun i _ => n - (intOf i).toNat)
  case atStart => exact ⟨0, Nat.zero_le _, rfl, fun i r hr => by simp at hr, HR1.out.1, HR1.out.2⟩
  case round =>
    obtain ⟨k, hk, rfl, hat, hroom, hb⟩ := hrel
    clear HR1
    by_cases hlt : k < n
    · obtain ⟨r, hr⟩ : ∃ r, l[k]? = some r := ⟨l[k]'(by have := HN.out; omega), List.getElem?_eq_getElem _⟩
      rcases HI.out with h | ⟨b, off, rfl, hsrc⟩
      · subst h; simp at hr
      have hblt : b < w.heap.size := block_lt_of_cell (hsrc k r hr).1
      have hkeep := (hsrc.keep (w' := w) (Below.refl _ _)) k r hr
      have p1 : wr.cell? ⟨b, off + k * 2, none⟩ = some (.string r.name) := by rw [hb.cell (p := ⟨b, off + k * 2, none⟩) hblt]; exact hkeep.1
      have p3 : wr.cell? ⟨b, off + k * 2 + 1, none⟩ = some (.string r.value) := by rw [hb.cell (p := ⟨b, off + k * 2 + 1, none⟩) hblt]; exact hkeep.2
      have HA : Hid (HeadsAt wr w.heap.size 0 (l.take k)) := hat
      have HM : Hid (HRoom wr w.heap.size (n * 2)) := hroom
      have HR : Hid (l[k]? = some r) := hr
      have g : (k : Int) < n := by omega
      clear hat hroom hr hsrc hkeep HI
      go_wp2_with fail
      refine (toHeader_any r _).mono ?_
      rintro e w2 ⟨rfl, hb2⟩
      have HA2 : Hid (HeadsAt w2 w.heap.size 0 (l.take k)) := HA.out.keep hb2
      have HM2 : Hid (HRoom w2 w.heap.size (n * 2)) := HM.out.keep hb2
      have hbb : Below w.heap.size w w2 := hb.trans (hb2.mono hb.size)
      obtain ⟨⟨u0, g0⟩, f0⟩ := HM2.out (k * 2) (by omega)
      obtain ⟨⟨u1, g1⟩, f1⟩ := HM2.out (k * 2 + 1) (by omega)
      have HP : Hid (HeadsAt (put2 w2 w.heap.size k r) w.heap.size 0 (l.take (k + 1)) ∧ HRoom (put2 w2 w.heap.size k r) w.heap.size (n * 2)) := ⟨HA2.out.put HR.out HM2.out hlt, HM2.out.put k r⟩
      clear HA HM HA2 HM2 hb2 hb p1 p3
      obtain ⟨rn, rv⟩ := r
      go_wp2_with fail
      go_roundw
      case rel => exact ⟨k + 1, by omega, by go_num, HP.out.1, HP.out.2, (hbb.setCell (Nat.le_refl _) _).setCell (Nat.le_refl _) _⟩
      case measure => simp [intOf]; omega
    · have HF : Hid (HeadsAt wr w.heap.size 0 l) := by
        have e : l.take k = l := List.take_of_length_le (by have := HN.out; omega)
        rw [e] at hat
        exact hat
      clear hat hroom
      go_wp2_with fail
      go_ret
      exact ⟨rfl, HF.out, hb⟩
end Go.Proofs.YtkchefbhpbpanaaGreatDoor
/-
  Appending, for whatever element: what is appended may be nil.
-/
namespace Go.Proofs.YtkchefbhpbpanaaGreatDoor
open Go.ChangeShapes Go.WideShapes Go.ChangeAt Go.RowKit Go.Sort
theorem row_ge {w : World} {base : Nat} {e : TypeId} {size : Nat} {v : Value} {n : Nat} {xs : List Value} (h : w.ownsRow base e size v n xs) (q : Nat) (hq : v.ownBlock = some q) : base ≤ q := (World.ownsRow.lt h q hq).1
theorem row_form {w : World} {base : Nat} {e : TypeId} {size : Nat} {v : Value} {n : Nat} {xs : List Value} (h : w.ownsRow base e size v n xs) : ∃ va vc, v = .slice va n vc ∧ n ≤ vc := by
  obtain ⟨_, h1 | ⟨g, c2, cur, e2, _, _, hc2, _⟩⟩ := h
  · obtain ⟨rfl, rfl⟩ := h1
    exact ⟨none, 0, rfl, Nat.le_refl _⟩
  · exact ⟨_, c2, e2, hc2⟩
theorem row_below {w w' : World} {base : Nat} {e : TypeId} {size : Nat} {v : Value} {n : Nat} {xs : List Value} (h : w.ownsRow base e size v n xs) (hb : Below w.heap.size w w') : w'.ownsRow base e size v n xs := by
  obtain ⟨h1, h2⟩ := h
  refine ⟨h1, ?_⟩
  rcases h2 with h2 | ⟨g, c, cur, e, hg, hh, hrest⟩
  · exact .inl h2
  · exact .inr ⟨g, c, cur, e, hg, by rw [hb.block g (Array.getElem?_eq_some_iff.1 hh).1]; exact hh, hrest⟩
theorem row_lower {w : World} {b0 base : Nat} {e : TypeId} {size : Nat} {v : Value} {n : Nat} {xs : List Value} (h : w.ownsRow base e size v n xs) (hb : b0 ≤ base) : w.ownsRow b0 e size v n xs := by
  obtain ⟨h1, h2⟩ := h
  refine ⟨h1, ?_⟩
  rcases h2 with h2 | ⟨g, c, cur, e, hg, hrest⟩
  · exact .inl h2
  · exact .inr ⟨g, c, cur, e, by omega, hrest⟩
theorem row_zero {P : Program} (w : World) (t ty e : TypeId) (i : TypeInfo) (ht : P.underlying t = some (.slice e)) (hi : P.info? e = some i) (base : Option Addr) (n k : Nat) (hle : n ≤ k) (pb : Option Addr) (c : Nat) :
    (Builtin.append_ #[t, t] ty #[.slice base n k, .slice pb 0 c]).run P w = .ok (.slice base n k) w := by
  cases base <;> cases pb <;> simp [Builtin.append_, run_underlying ht, sizeOf, typeInfo, hi, Builtin.lenOf, Builtin.firstCells, hle, storeCells, loadCells, loadCellsFrom]
section
variable {P : Program}
theorem wp_append_in {o : Oper} {a : Act} {K : Act → World → Prop} {Q : Exit → Act → World → Prop} (w : World) (s x : Operand) (t e : TypeId)
    (ho : o.op = .call { callee := .builtin .append, args := #[s, x], argTypes := #[t, t] })
    (i : TypeInfo) (z : Value) (size bytes : Nat) (ht : P.underlying t = some (.slice e)) (hi : P.info? e = some i) (hz : i.zero = some z) (hsize : i.size = size) (hby : i.bytes = bytes) (hzs : z.cells.size = size) (hsz : 0 < size)
    (base : Nat) (v : Value) (n : Nat) (xs : List Value) (hs : a.eval s = v) (hown : w.ownsRow base e size v n xs)
    (pa : Option Addr) (cap m : Nat) (news : List Value) (hx : a.eval x = .slice pa m cap) (hl : news.length = m * size) (hnews : m = 0 ∨ ∃ ad, pa = some ad ∧ ∀ j u, news[j]? = some u → w.cell? (ad.add j) = some u) (h1 : ∀ u ∈ news, u.oneCell' = true)
    (h63 : n + m ≤ maxLen) (hbytes : (n + m) * bytes ≤ 140737488355328) (hbase : base ≤ w.heap.size)
    (h : ∀ v' w', w'.ownsRow base e size v' (n + m) (xs ++ news) → Below base w w' → (∀ b o, b < w.heap.size → v.ownBlock ≠ some b → w'.cell? ⟨b, o, none⟩ = w.cell? ⟨b, o, none⟩ ∧ w'.frozen? ⟨b, o, none⟩ = w.frozen? ⟨b, o, none⟩) → K (a.put o.dst v') w') :
    Oper.wp P o a w K Q := by
  by_cases h0 : m = 0
  · subst h0
    obtain ⟨va, vc, rfl, hle⟩ := row_form hown
    have en : news = [] := List.eq_nil_of_length_eq_zero (by rw [hl, Nat.zero_mul])
    subst en
    unfold Oper.wp execOp
    simp only [ho, resolve, invoke, builtin, Sem.run_bind, Sem.run_pure, Result.andThen_ok, List.map_toArray, List.map_cons, List.map_nil, hs, hx]
    rw [row_zero w t _ e i ht hi va n vc hle pa cap]
    exact h _ w (by simpa using hown) (Below.refl _ _) (fun _ _ _ _ => ⟨rfl, rfl⟩)
  · rcases hnews with hnews | ⟨ad, rfl, hnews⟩
    · exact absurd hnews h0
    · refine wp_append_lies w s x t ho base e i z size bytes ht hi hz hsize hby hzs hsz v n xs hs hown ad m cap news hx hl hnews h1 (by omega) h63 hbytes hbase _ rfl ?_
      intro g c w' h1 h2 h3 h4
      exact h _ w' h1 ((Below.refl base w).grown h2 hbase (fun q hq => row_ge hown q hq)) (fun b o hb hne => ⟨h2.cell_far ⟨b, o, none⟩ hb hne.symm, h2.frozen_far ⟨b, o, none⟩ hb hne.symm⟩)
theorem step_append_in {ops : Array Oper} {o : Oper} {a : Act} {K : Act → World → Prop} {Q : Exit → Act → World → Prop} {E : Prop} (w : World) (hgd : o.guard = none) (s x : Operand) (t e : TypeId)
    (ho : o.op = .call { callee := .builtin .append, args := #[s, x], argTypes := #[t, t] })
    (i : TypeInfo) (z : Value) (size bytes : Nat) (ht : P.underlying t = some (.slice e)) (hi : P.info? e = some i) (hz : i.zero = some z) (hsize : i.size = size) (hby : i.bytes = bytes) (hzs : z.cells.size = size) (hsz : 0 < size)
    (base : Nat) (v : Value) (n : Nat) (xs : List Value) (hs : a.eval s = v) (hown : w.ownsRow base e size v n xs)
    (pa : Option Addr) (cap m : Nat) (news : List Value) (hx : a.eval x = .slice pa m cap) (hl : news.length = m * size) (hnews : m = 0 ∨ ∃ ad, pa = some ad ∧ ∀ j u, news[j]? = some u → w.cell? (ad.add j) = some u) (h1 : ∀ u ∈ news, u.oneCell' = true)
    (h63 : n + m ≤ maxLen) (hbytes : (n + m) * bytes ≤ 140737488355328) (hbase : base ≤ w.heap.size)
    (h : ∀ v' w', w'.ownsRow base e size v' (n + m) (xs ++ news) → Below base w w' → (∀ b o, b < w.heap.size → v.ownBlock ≠ some b → w'.cell? ⟨b, o, none⟩ = w.cell? ⟨b, o, none⟩ ∧ w'.frozen? ⟨b, o, none⟩ = w.frozen? ⟨b, o, none⟩) → K (a.put o.dst v') w') :
    if Region.wanted o (yielded ops a.tmps) = true then Oper.wp P o a w K Q else E := by
  have hw : Region.wanted o (yielded ops a.tmps) = true := by simp [Region.wanted, hgd]
  rw [if_pos hw]
  exact wp_append_in w s x t e ho i z size bytes ht hi hz hsize hby hzs hsz base v n xs hs hown pa cap m news hx hl hnews h1 h63 hbytes hbase h
end
end Go.Proofs.YtkchefbhpbpanaaGreatDoor
/-
  Four cells that may be written.
-/
namespace Go.Proofs.YtkchefbhpbpanaaGreatDoor
open Go.ChangeShapes Go.WideShapes Go.ChangeAt Go.RowKit
structure S4 (w : World) (b : Nat) (v0 v1 v2 v3 : Value) : Prop where
  c0 : w.cell? ⟨b, 0, none⟩ = some v0
  c1 : w.cell? ⟨b, 1, none⟩ = some v1
  c2 : w.cell? ⟨b, 2, none⟩ = some v2
  c3 : w.cell? ⟨b, 3, none⟩ = some v3
  fr : ∀ o, w.frozen? ⟨b, o, none⟩ = false
  lt : b < w.heap.size
section
variable {w w' : World} {b : Nat} {v0 v1 v2 v3 : Value}
theorem S4.keep (k : S4 w b v0 v1 v2 v3) (hb : Below w.heap.size w w') : S4 w' b v0 v1 v2 v3 :=
  ⟨by rw [hb.cell (p := ⟨b, 0, none⟩) k.lt]; exact k.c0, by rw [hb.cell (p := ⟨b, 1, none⟩) k.lt]; exact k.c1, by rw [hb.cell (p := ⟨b, 2, none⟩) k.lt]; exact k.c2, by rw [hb.cell (p := ⟨b, 3, none⟩) k.lt]; exact k.c3, fun o => by rw [hb.frozen (p := ⟨b, o, none⟩) k.lt]; exact k.fr o, Nat.lt_of_lt_of_le k.lt hb.size⟩
theorem S4.new (w : World) (v0 v1 v2 v3 : Value) (t : TypeId) : S4 (w.alloc (.cells #[v0, v1, v2, v3] t)) w.heap.size v0 v1 v2 v3 := ⟨by simp, by simp, by simp, by simp, fun o => by simp, by simp⟩
theorem S4.off (k : S4 w b v0 v1 v2 v3) {B i : Nat} {x : Value} (h : B ≠ b) : S4 (w.setCell ⟨B, i, none⟩ x) b v0 v1 v2 v3 := by
  have ne : ∀ o : Nat, (⟨B, i, none⟩ : Addr) ≠ ⟨b, o, none⟩ := fun o q => h (congrArg Addr.block q)
  exact ⟨by rw [World.cell?_setCell_other _ _ _ _ (ne _)]; exact k.c0, by rw [World.cell?_setCell_other _ _ _ _ (ne _)]; exact k.c1, by rw [World.cell?_setCell_other _ _ _ _ (ne _)]; exact k.c2, by rw [World.cell?_setCell_other _ _ _ _ (ne _)]; exact k.c3, fun o => by rw [World.frozen?_setCell]; exact k.fr o, by simpa using k.lt⟩
theorem S4.set0 (k : S4 w b v0 v1 v2 v3) (x : Value) : S4 (w.setCell ⟨b, 0, none⟩ x) b x v1 v2 v3 :=
  ⟨World.cell?_setCell_same _ _ _ k.c0, by rw [World.cell?_setCell_other _ _ _ _ (by intro q; have := congrArg Addr.off q; simp at this)]; exact k.c1, by rw [World.cell?_setCell_other _ _ _ _ (by intro q; have := congrArg Addr.off q; simp at this)]; exact k.c2, by rw [World.cell?_setCell_other _ _ _ _ (by intro q; have := congrArg Addr.off q; simp at this)]; exact k.c3, fun o => by rw [World.frozen?_setCell]; exact k.fr o, by simpa using k.lt⟩
theorem S4.set1 (k : S4 w b v0 v1 v2 v3) (x : Value) : S4 (w.setCell ⟨b, 1, none⟩ x) b v0 x v2 v3 :=
  ⟨by rw [World.cell?_setCell_other _ _ _ _ (by intro q; have := congrArg Addr.off q; simp at this)]; exact k.c0, World.cell?_setCell_same _ _ _ k.c1, by rw [World.cell?_setCell_other _ _ _ _ (by intro q; have := congrArg Addr.off q; simp at this)]; exact k.c2, by rw [World.cell?_setCell_other _ _ _ _ (by intro q; have := congrArg Addr.off q; simp at this)]; exact k.c3, fun o => by rw [World.frozen?_setCell]; exact k.fr o, by simpa using k.lt⟩
theorem S4.set2 (k : S4 w b v0 v1 v2 v3) (x : Value) : S4 (w.setCell ⟨b, 2, none⟩ x) b v0 v1 x v3 :=
  ⟨by rw [World.cell?_setCell_other _ _ _ _ (by intro q; have := congrArg Addr.off q; simp at this)]; exact k.c0, by rw [World.cell?_setCell_other _ _ _ _ (by intro q; have := congrArg Addr.off q; simp at this)]; exact k.c1, World.cell?_setCell_same _ _ _ k.c2, by rw [World.cell?_setCell_other _ _ _ _ (by intro q; have := congrArg Addr.off q; simp at this)]; exact k.c3, fun o => by rw [World.frozen?_setCell]; exact k.fr o, by simpa using k.lt⟩
theorem S4.set3 (k : S4 w b v0 v1 v2 v3) (x : Value) : S4 (w.setCell ⟨b, 3, none⟩ x) b v0 v1 v2 x :=
  ⟨by rw [World.cell?_setCell_other _ _ _ _ (by intro q; have := congrArg Addr.off q; simp at this)]; exact k.c0, by rw [World.cell?_setCell_other _ _ _ _ (by intro q; have := congrArg Addr.off q; simp at this)]; exact k.c1, by rw [World.cell?_setCell_other _ _ _ _ (by intro q; have := congrArg Addr.off q; simp at this)]; exact k.c2, World.cell?_setCell_same _ _ _ k.c3, fun o => by rw [World.frozen?_setCell]; exact k.fr o, by simpa using k.lt⟩
end
end Go.Proofs.YtkchefbhpbpanaaGreatDoor
/-
  Five cells that may be written.
-/
namespace Go.Proofs.YtkchefbhpbpanaaGreatDoor
open Go.ChangeShapes Go.WideShapes Go.ChangeAt Go.RowKit
structure S5 (w : World) (b : Nat) (v0 v1 v2 v3 v4 : Value) : Prop where
  c0 : w.cell? ⟨b, 0, none⟩ = some v0
  c1 : w.cell? ⟨b, 1, none⟩ = some v1
  c2 : w.cell? ⟨b, 2, none⟩ = some v2
  c3 : w.cell? ⟨b, 3, none⟩ = some v3
  c4 : w.cell? ⟨b, 4, none⟩ = some v4
  fr : ∀ o, w.frozen? ⟨b, o, none⟩ = false
  lt : b < w.heap.size
section
variable {w w' : World} {b : Nat} {v0 v1 v2 v3 v4 : Value}
theorem S5.keep (k : S5 w b v0 v1 v2 v3 v4) (hb : Below w.heap.size w w') : S5 w' b v0 v1 v2 v3 v4 :=
  ⟨by rw [hb.cell (p := ⟨b, 0, none⟩) k.lt]; exact k.c0, by rw [hb.cell (p := ⟨b, 1, none⟩) k.lt]; exact k.c1, by rw [hb.cell (p := ⟨b, 2, none⟩) k.lt]; exact k.c2, by rw [hb.cell (p := ⟨b, 3, none⟩) k.lt]; exact k.c3, by rw [hb.cell (p := ⟨b, 4, none⟩) k.lt]; exact k.c4, fun o => by rw [hb.frozen (p := ⟨b, o, none⟩) k.lt]; exact k.fr o, Nat.lt_of_lt_of_le k.lt hb.size⟩
theorem S5.new (w : World) (v0 v1 v2 v3 v4 : Value) (t : TypeId) : S5 (w.alloc (.cells #[v0, v1, v2, v3, v4] t)) w.heap.size v0 v1 v2 v3 v4 := ⟨by simp, by simp, by simp, by simp, by simp, fun o => by simp, by simp⟩
theorem S5.off (k : S5 w b v0 v1 v2 v3 v4) {B i : Nat} {x : Value} (h : B ≠ b) : S5 (w.setCell ⟨B, i, none⟩ x) b v0 v1 v2 v3 v4 := by
  have ne : ∀ o : Nat, (⟨B, i, none⟩ : Addr) ≠ ⟨b, o, none⟩ := fun o q => h (congrArg Addr.block q)
  exact ⟨by rw [World.cell?_setCell_other _ _ _ _ (ne _)]; exact k.c0, by rw [World.cell?_setCell_other _ _ _ _ (ne _)]; exact k.c1, by rw [World.cell?_setCell_other _ _ _ _ (ne _)]; exact k.c2, by rw [World.cell?_setCell_other _ _ _ _ (ne _)]; exact k.c3, by rw [World.cell?_setCell_other _ _ _ _ (ne _)]; exact k.c4, fun o => by rw [World.frozen?_setCell]; exact k.fr o, by simpa using k.lt⟩
theorem S5.set0 (k : S5 w b v0 v1 v2 v3 v4) (x : Value) : S5 (w.setCell ⟨b, 0, none⟩ x) b x v1 v2 v3 v4 :=
  ⟨World.cell?_setCell_same _ _ _ k.c0, by rw [World.cell?_setCell_other _ _ _ _ (by intro q; have := congrArg Addr.off q; simp at this)]; exact k.c1, by rw [World.cell?_setCell_other _ _ _ _ (by intro q; have := congrArg Addr.off q; simp at this)]; exact k.c2, by rw [World.cell?_setCell_other _ _ _ _ (by intro q; have := congrArg Addr.off q; simp at this)]; exact k.c3, by rw [World.cell?_setCell_other _ _ _ _ (by intro q; have := congrArg Addr.off q; simp at this)]; exact k.c4, fun o => by rw [World.frozen?_setCell]; exact k.fr o, by simpa using k.lt⟩
theorem S5.set1 (k : S5 w b v0 v1 v2 v3 v4) (x : Value) : S5 (w.setCell ⟨b, 1, none⟩ x) b v0 x v2 v3 v4 :=
  ⟨by rw [World.cell?_setCell_other _ _ _ _ (by intro q; have := congrArg Addr.off q; simp at this)]; exact k.c0, World.cell?_setCell_same _ _ _ k.c1, by rw [World.cell?_setCell_other _ _ _ _ (by intro q; have := congrArg Addr.off q; simp at this)]; exact k.c2, by rw [World.cell?_setCell_other _ _ _ _ (by intro q; have := congrArg Addr.off q; simp at this)]; exact k.c3, by rw [World.cell?_setCell_other _ _ _ _ (by intro q; have := congrArg Addr.off q; simp at this)]; exact k.c4, fun o => by rw [World.frozen?_setCell]; exact k.fr o, by simpa using k.lt⟩
theorem S5.set2 (k : S5 w b v0 v1 v2 v3 v4) (x : Value) : S5 (w.setCell ⟨b, 2, none⟩ x) b v0 v1 x v3 v4 :=
  ⟨by rw [World.cell?_setCell_other _ _ _ _ (by intro q; have := congrArg Addr.off q; simp at this)]; exact k.c0, by rw [World.cell?_setCell_other _ _ _ _ (by intro q; have := congrArg Addr.off q; simp at this)]; exact k.c1, World.cell?_setCell_same _ _ _ k.c2, by rw [World.cell?_setCell_other _ _ _ _ (by intro q; have := congrArg Addr.off q; simp at this)]; exact k.c3, by rw [World.cell?_setCell_other _ _ _ _ (by intro q; have := congrArg Addr.off q; simp at this)]; exact k.c4, fun o => by rw [World.frozen?_setCell]; exact k.fr o, by simpa using k.lt⟩
theorem S5.set3 (k : S5 w b v0 v1 v2 v3 v4) (x : Value) : S5 (w.setCell ⟨b, 3, none⟩ x) b v0 v1 v2 x v4 :=
  ⟨by rw [World.cell?_setCell_other _ _ _ _ (by intro q; have := congrArg Addr.off q; simp at this)]; exact k.c0, by rw [World.cell?_setCell_other _ _ _ _ (by intro q; have := congrArg Addr.off q; simp at this)]; exact k.c1, by rw [World.cell?_setCell_other _ _ _ _ (by intro q; have := congrArg Addr.off q; simp at this)]; exact k.c2, World.cell?_setCell_same _ _ _ k.c3, by rw [World.cell?_setCell_other _ _ _ _ (by intro q; have := congrArg Addr.off q; simp at this)]; exact k.c4, fun o => by rw [World.frozen?_setCell]; exact k.fr o, by simpa using k.lt⟩
theorem S5.set4 (k : S5 w b v0 v1 v2 v3 v4) (x : Value) : S5 (w.setCell ⟨b, 4, none⟩ x) b v0 v1 v2 v3 x :=
  ⟨by rw [World.cell?_setCell_other _ _ _ _ (by intro q; have := congrArg Addr.off q; simp at this)]; exact k.c0, by rw [World.cell?_setCell_other _ _ _ _ (by intro q; have := congrArg Addr.off q; simp at this)]; exact k.c1, by rw [World.cell?_setCell_other _ _ _ _ (by intro q; have := congrArg Addr.off q; simp at this)]; exact k.c2, by rw [World.cell?_setCell_other _ _ _ _ (by intro q; have := congrArg Addr.off q; simp at this)]; exact k.c3, World.cell?_setCell_same _ _ _ k.c4, fun o => by rw [World.frozen?_setCell]; exact k.fr o, by simpa using k.lt⟩
end
end Go.Proofs.YtkchefbhpbpanaaGreatDoor
/-
  A world in which one block alone has changed.
-/
namespace Go.Proofs.YtkchefbhpbpanaaGreatDoor
open Go.ChangeShapes Go.WideShapes Go.ChangeAt Go.RowKit Go.Sort
structure OneB (g : Nat) (w w' : World) : Prop where
  os : w'.os = w.os
  tape : w'.tape = w.tape
  output : w'.output = w.output
  size : w'.heap.size = w.heap.size
  block : ∀ k, k ≠ g → w'.heap[k]? = w.heap[k]?
theorem OneB.refl (g : Nat) (w : World) : OneB g w w := ⟨rfl, rfl, rfl, rfl, fun _ _ => rfl⟩
theorem OneB.trans {g : Nat} {w w1 w2 : World} (h : OneB g w w1) (k : OneB g w1 w2) : OneB g w w2 := ⟨k.os.trans h.os, k.tape.trans h.tape, k.output.trans h.output, k.size.trans h.size, fun i hi => (k.block i hi).trans (h.block i hi)⟩
theorem OneB.set (g : Nat) (w : World) (o : Nat) (u : Value) : OneB g w (w.setCell ⟨g, o, none⟩ u) := ⟨rfl, rfl, rfl, by simp [World.setCell], fun k hk => Below.heap_setCell _ _ _ _ hk⟩
theorem OneB.below {g B : Nat} {w w' : World} (h : OneB g w w') (hB : B ≤ g) : Below B w w' := ⟨h.os, h.tape, h.output, Nat.le_of_eq h.size.symm, fun k hk => h.block k (by omega)⟩
theorem OneB.cell {g : Nat} {w w' : World} (h : OneB g w w') {b : Nat} (o : Nat) (hb : b ≠ g) : w'.cell? ⟨b, o, none⟩ = w.cell? ⟨b, o, none⟩ := by
  exact World.cell?_of_block (w := w) (h.block b hb)
theorem OneB.frozen {g : Nat} {w w' : World} (h : OneB g w w') {b : Nat} (o : Nat) (hb : b ≠ g) : w'.frozen? ⟨b, o, none⟩ = w.frozen? ⟨b, o, none⟩ := by
  exact World.frozen?_of_block (w := w) (h.block b hb)
theorem S4.one {g : Nat} {w w' : World} {b : Nat} {v0 v1 v2 v3 : Value} (k : S4 w b v0 v1 v2 v3) (h : OneB g w w') (hb : b ≠ g) : S4 w' b v0 v1 v2 v3 :=
  ⟨by rw [h.cell _ hb]; exact k.c0, by rw [h.cell _ hb]; exact k.c1, by rw [h.cell _ hb]; exact k.c2, by rw [h.cell _ hb]; exact k.c3, fun o => by rw [h.frozen _ hb]; exact k.fr o, by rw [h.size]; exact k.lt⟩
theorem S5.one {g : Nat} {w w' : World} {b : Nat} {v0 v1 v2 v3 v4 : Value} (k : S5 w b v0 v1 v2 v3 v4) (h : OneB g w w') (hb : b ≠ g) : S5 w' b v0 v1 v2 v3 v4 :=
  ⟨by rw [h.cell _ hb]; exact k.c0, by rw [h.cell _ hb]; exact k.c1, by rw [h.cell _ hb]; exact k.c2, by rw [h.cell _ hb]; exact k.c3, by rw [h.cell _ hb]; exact k.c4, fun o => by rw [h.frozen _ hb]; exact k.fr o, by rw [h.size]; exact k.lt⟩
end Go.Proofs.YtkchefbhpbpanaaGreatDoor
/-
  A list in a row of one's own: what is appended; new lists.
-/
namespace Go.Proofs.YtkchefbhpbpanaaGreatDoor
open Go.ChangeShapes Go.WideShapes Go.ChangeAt Go.RowKit Go.Sort
def cellWr (r : Wr) : List Value := [.int .i64 r.rq, .bool r.hd, .int .i64 r.du, .bool r.lt]
def wWr (l : List Wr) : List Value := l.flatMap cellWr
theorem wWr_len (l : List Wr) : (wWr l).length = l.length * 4 := by
  induction l with
  | nil => rfl
  | cons r l ih => simp only [wWr, List.flatMap_cons, List.length_append, List.length_cons] at ih ⊢; rw [ih]; simp [cellWr]; omega
theorem wWr_at (l : List Wr) : ∀ (i : Nat) r, l[i]? = some r → (wWr l)[i * 4]? = some (.int .i64 r.rq) ∧ (wWr l)[i * 4 + 1]? = some (.bool r.hd) ∧ (wWr l)[i * 4 + 2]? = some (.int .i64 r.du) ∧ (wWr l)[i * 4 + 3]? = some (.bool r.lt) := by
  induction l with
  | nil => intro i r hr; simp at hr
  | cons x l ih =>
    intro i r hr
    have e : wWr (x :: l) = .int .i64 x.rq :: .bool x.hd :: .int .i64 x.du :: .bool x.lt :: wWr l := by simp [wWr, cellWr]
    rw [e]
    cases i with
    | zero => simp at hr; subst hr; simp
    | succ i =>
      have := ih i r (by simpa using hr)
      rw [show (i + 1) * 4 = i * 4 + 4 from by omega]
      simpa using this
theorem wWr_one (l : List Wr) : ∀ u ∈ wWr l, u.oneCell' = true := by
  intro u hu
  simp only [wWr, List.mem_flatMap] at hu
  obtain ⟨r, _, hr⟩ := hu
  simp only [cellWr, List.mem_cons, List.not_mem_nil, or_false] at hr
  rcases hr with rfl | rfl | rfl | rfl <;> rfl
theorem addWr (b off j : Nat) : (⟨b, off, none⟩ : Addr).add j = ⟨b, off + j, none⟩ := by unfold Addr.add; split <;> simp_all
theorem wWr_in {w : World} {a : Option Addr} {l : List Wr} (h : WrIn w a l) : l.length = 0 ∨ ∃ ad, a = some ad ∧ ∀ j u, (wWr l)[j]? = some u → w.cell? (ad.add j) = some u := by
  rcases h with rfl | ⟨b, off, rfl, h⟩
  · exact .inl rfl
  · refine .inr ⟨_, rfl, fun j u hj => ?_⟩
    rw [addWr]
    have hlt : j < (wWr l).length := (List.getElem?_eq_some_iff.1 hj).1
    rw [wWr_len] at hlt
    obtain ⟨r, hr⟩ : ∃ r, l[j / 4]? = some r := ⟨l[j / 4]'(by omega), List.getElem?_eq_getElem _⟩
    obtain ⟨e0, e1, e2, e3⟩ := wWr_at l (j / 4) r hr
    obtain ⟨c0, c1, c2, c3⟩ := h (j / 4) r hr
    obtain hm | hm | hm | hm : j % 4 = 0 ∨ j % 4 = 1 ∨ j % 4 = 2 ∨ j % 4 = 3 := by omega
    · have ej : j / 4 * 4 = j := by omega
      rw [ej] at e0 c0
      rw [e0] at hj
      rw [← hj]; exact c0
    · have ej : j / 4 * 4 + 1 = j := by omega
      rw [ej] at e1
      rw [Nat.add_assoc, ej] at c1
      rw [e1] at hj
      rw [← hj]; exact c1
    · have ej : j / 4 * 4 + 2 = j := by omega
      rw [ej] at e2
      rw [Nat.add_assoc, ej] at c2
      rw [e2] at hj
      rw [← hj]; exact c2
    · have ej : j / 4 * 4 + 3 = j := by omega
      rw [ej] at e3
      rw [Nat.add_assoc, ej] at c3
      rw [e3] at hj
      rw [← hj]; exact c3
/-- v, nil or not, holds l in a row of the call's own, from block base on. -/
def OwnWr (w : World) (base : Nat) (v : Value) (l : List Wr) : Prop := w.ownsRow base 41 4 v l.length (wWr l)
theorem OwnWr.none0 (w : World) (base : Nat) : OwnWr w base (.slice none 0 0) [] := World.ownsRow_nil _ _ _ _
theorem OwnWr.made0 (w : World) (base : Nat) (hb : base ≤ w.heap.size) : OwnWr (w.alloc (.cells #[] 41)) base (.slice (some ⟨w.heap.size, 0, none⟩) 0 0) [] := World.ownsRow_made w #[] 0 hb (by unfold maxLen; omega) rfl
theorem OwnWr.below {w w' : World} {base : Nat} {v : Value} {l : List Wr} (h : OwnWr w base v l) (hb : Below w.heap.size w w') : OwnWr w' base v l := row_below h hb
theorem OwnWr.lower {w : World} {b0 base : Nat} {v : Value} {l : List Wr} (h : OwnWr w base v l) (hb : b0 ≤ base) : OwnWr w b0 v l := row_lower h hb
theorem OwnWr.in {w : World} {base : Nat} {v : Value} {l : List Wr} (h : OwnWr w base v l) : ∃ a c, v = .slice a l.length c ∧ l.length ≤ c ∧ WrIn w a l := by
  have h0 := h
  obtain ⟨_, h1 | ⟨g, c, cur, rfl, _, _, hc, _⟩⟩ := h
  · have e : l = [] := List.eq_nil_of_length_eq_zero h1.2
    subst e
    exact ⟨none, 0, h1.1, Nat.le_refl _, .inl rfl⟩
  · refine ⟨_, c, rfl, hc, .inr ⟨g, 0, rfl, fun i r hr => ?_⟩⟩
    have hi := (List.getElem?_eq_some_iff.1 hr).1
    obtain ⟨a0, a1, a2, a3⟩ := wWr_at l i r hr
    have c0 := World.ownsRow.cellAt h0 (i * 4) (by omega)
    have c1 := World.ownsRow.cellAt h0 (i * 4 + 1) (by omega)
    have c2 := World.ownsRow.cellAt h0 (i * 4 + 2) (by omega)
    have c3 := World.ownsRow.cellAt h0 (i * 4 + 3) (by omega)
    exact ⟨by rw [Nat.zero_add, c0, a0], by rw [Nat.zero_add, c1, a1], by rw [Nat.zero_add, c2, a2], by rw [Nat.zero_add, c3, a3]⟩
/-- v holds l in a block of its own, from base on. -/
def WrNew (w : World) (base : Nat) (v : Value) (l : List Wr) : Prop := (l = [] ∧ ∃ a c, v = .slice a 0 c) ∨ ∃ g off cap, v = .slice (some ⟨g, off, none⟩) l.length cap ∧ base ≤ g ∧ g < w.heap.size ∧ WrAt w g off l ∧ ∀ o, w.frozen? ⟨g, o, none⟩ = false
theorem WrNew.in {w : World} {base : Nat} {v : Value} {l : List Wr} (h : WrNew w base v l) : ∃ a c, v = .slice a l.length c ∧ WrIn w a l := by
  rcases h with ⟨rfl, a, c, rfl⟩ | ⟨g, off, cap, rfl, _, _, h, _⟩
  · exact ⟨a, c, rfl, .inl rfl⟩
  · exact ⟨_, _, rfl, .inr ⟨g, off, rfl, h⟩⟩
theorem WrNew.keep {w w' : World} {base : Nat} {v : Value} {l : List Wr} (h : WrNew w base v l) (hb : Below w.heap.size w w') : WrNew w' base v l := by
  rcases h with h | ⟨g, off, cap, e, h1, h2, h3, h4⟩
  · exact .inl h
  · exact .inr ⟨g, off, cap, e, h1, Nat.lt_of_lt_of_le h2 hb.size, h3.keep hb, fun o => by rw [hb.frozen (p := ⟨g, o, none⟩) h2]; exact h4 o⟩
theorem WrNew.lower {w : World} {b0 base : Nat} {v : Value} {l : List Wr} (h : WrNew w base v l) (hb : b0 ≤ base) : WrNew w b0 v l := by
  rcases h with h | ⟨g, off, cap, e, h1, h2⟩
  · exact .inl h
  · exact .inr ⟨g, off, cap, e, by omega, h2⟩
theorem WrNew.nil (w : World) (base : Nat) (a : Option Addr) (c : Nat) : WrNew w base (.slice a 0 c) [] := .inl ⟨rfl, a, c, rfl⟩
theorem WrAt.one {g G off : Nat} {w w' : World} {l : List Wr} (h : WrAt w G off l) (k : OneB g w w') (hne : G ≠ g) : WrAt w' G off l := by
  intro i r hr
  obtain ⟨p0, p1, p2, p3⟩ := h i r hr
  exact ⟨by rw [k.cell _ hne]; exact p0, by rw [k.cell _ hne]; exact p1, by rw [k.cell _ hne]; exact p2, by rw [k.cell _ hne]; exact p3⟩
theorem WrNew.one {g : Nat} {w w' : World} {base : Nat} {v : Value} {l : List Wr} (h : WrNew w base v l) (k : OneB g w w') (hne : ∀ G, v.ownBlock = some G → G ≠ g) : WrNew w' base v l := by
  rcases h with h | ⟨G, off, cap, rfl, h1, h2, h3, h4⟩
  · exact .inl h
  · have hn := hne G rfl
    exact .inr ⟨G, off, cap, rfl, h1, by rw [k.size]; exact h2, h3.one k hn, fun o => by rw [k.frozen _ hn]; exact h4 o⟩
theorem OwnWr.new {w : World} {base : Nat} {v : Value} {l : List Wr} (h : OwnWr w base v l) : WrNew w base v l := by
  obtain ⟨a, c, e, _, hi⟩ := h.in
  obtain ⟨_, h1 | ⟨g, c', cur, rfl, hg, hh, _⟩⟩ := h
  · have e0 : l = [] := List.eq_nil_of_length_eq_zero h1.2
    exact .inl ⟨e0, none, 0, h1.1⟩
  · simp only [Value.slice.injEq, true_and] at e
    obtain ⟨rfl, rfl⟩ := e
    rcases hi with hi | ⟨b, off, e2, hat⟩
    · exact .inl ⟨hi, some ⟨g, 0, none⟩, c', by rw [hi]; rfl⟩
    · simp only [Option.some.injEq, Addr.mk.injEq, and_true] at e2
      obtain ⟨rfl, rfl⟩ := e2
      exact .inr ⟨g, 0, c', rfl, hg, (Array.getElem?_eq_some_iff.1 hh).1, hat, fun o => by simp [World.frozen?, hh]⟩
theorem WrNew.spot {w : World} {base : Nat} {a : Option Addr} {n c : Nat} {l : List Wr} (h : WrNew w base (.slice a n c) l) : ∃ g off, base ≤ g ∧ (l = [] ∨ (a = some ⟨g, off, none⟩ ∧ WrAt w g off l ∧ ∀ o, o < off + l.length * 4 → w.frozen? ⟨g, o, none⟩ = false)) ∧ (l = [] ∨ g < w.heap.size) := by
  rcases h with ⟨e, _⟩ | ⟨g, off, cap, e, h1, h2, h3, h4⟩
  · exact ⟨base, 0, Nat.le_refl _, .inl e, .inl e⟩
  · simp only [Value.slice.injEq] at e
    obtain ⟨rfl, rfl, rfl⟩ := e
    exact ⟨g, off, h1, .inr ⟨rfl, h3, fun o _ => h4 o⟩, .inr h2⟩
theorem wpList_append1Wr {ops : Array Oper} {rest : List Oper} {o : Oper} {a : Act} {Q : Exit → Act → World → Prop} (w : World) (hgd : o.guard = none) (s x : Operand)
    (ho : o.op = .call { callee := .builtin .append, args := #[s, x], argTypes := #[34, 34] }) (base : Nat) (v : Value) (l : List Wr) (r : Wr)
    (hs : a.eval s = v) (hx : a.eval x = .slice (some ⟨w.heap.size, 0, none⟩) 1 1) (hown : OwnWr w base v l) (hl : l.length ≤ 2000000) (hbase : base ≤ w.heap.size)
    (h : ∀ v' w', OwnWr w' base v' (l ++ [r]) → Below base w w' → w.grownBy w' v.ownBlock → wpList Tryz.prog ops Q rest (a.put o.dst v') w') :
    wpList Tryz.prog ops Q (o :: rest) a (w.alloc (.cells #[.int .i64 r.rq, .bool r.hd, .int .i64 r.du, .bool r.lt] 41)) := by
  obtain ⟨i0, hi, hz0, hz1, hz2⟩ := info_parts infoWr
  refine wpList_append_own _ hgd s x 34 ho base 41 i0 (.agg #[.int .i64 0, .bool false, .int .i64 0, .bool false]) 4 32 Tryz.underlying34 hi hz0 hz1 hz2 rfl (by decide) v l.length (wWr l) hs (World.ownsRow.alloc hown _) ⟨w.heap.size, 0, none⟩ 1 1 (cellWr r) hx rfl ?_ ?_ ?_ ?_ ?_ ?_
  · intro j u hj
    match j, hj with
    | 0, hj => simp [cellWr] at hj; subst hj; simp [Addr.add]
    | 1, hj => simp [cellWr] at hj; subst hj; simp [Addr.add]
    | 2, hj => simp [cellWr] at hj; subst hj; simp [Addr.add]
    | 3, hj => simp [cellWr] at hj; subst hj; simp [Addr.add]
  · intro u hu; simp [cellWr] at hu; rcases hu with rfl | rfl | rfl | rfl <;> rfl
  · unfold maxLen; omega
  · omega
  · simp; omega
  · intro v' w' h1 h2 h3
    have e : wWr (l ++ [r]) = wWr l ++ cellWr r := by simp [wWr]
    refine h v' w' (by unfold OwnWr; rw [e, List.length_append]; exact h1) ?_ ?_
    · exact ((Below.refl base w).alloc hbase _).grown h2 (by simp; omega) (fun q hq => row_ge hown q hq)
    · have hb := (Below.refl w.heap.size w).alloc (Nat.le_refl _) (.cells #[.int .i64 r.rq, .bool r.hd, .int .i64 r.du, .bool r.lt] 41)
      exact ⟨h2.os.trans hb.os, h2.tape.trans hb.tape, h2.output.trans hb.output, Nat.le_trans hb.size h2.size, fun q hq hn => (h2.block q (Nat.lt_of_lt_of_le hq hb.size) hn).trans (hb.block q hq)⟩
theorem wpList_appendInWr {ops : Array Oper} {rest : List Oper} {o : Oper} {a : Act} {Q : Exit → Act → World → Prop} (w : World) (hgd : o.guard = none) (s x : Operand)
    (ho : o.op = .call { callee := .builtin .append, args := #[s, x], argTypes := #[34, 34] }) (base : Nat) (v : Value) (l m : List Wr) (pa : Option Addr) (cap : Nat)
    (hs : a.eval s = v) (hx : a.eval x = .slice pa m.length cap) (hown : OwnWr w base v l) (hin : WrIn w pa m) (hl : l.length + m.length ≤ 2000000) (hbase : base ≤ w.heap.size)
    (h : ∀ v' w', OwnWr w' base v' (l ++ m) → Below base w w' → wpList Tryz.prog ops Q rest (a.put o.dst v') w') :
    wpList Tryz.prog ops Q (o :: rest) a w := by
  obtain ⟨i0, hi, hz0, hz1, hz2⟩ := info_parts infoWr
  refine wpList_plain hgd fun K hK => wp_append_in w s x 34 41 ho i0 (.agg #[.int .i64 0, .bool false, .int .i64 0, .bool false]) 4 32 Tryz.underlying34 hi hz0 hz1 hz2 rfl (by decide) base v l.length (wWr l) hs hown pa cap m.length (wWr m) hx (wWr_len m) (wWr_in hin) (wWr_one m) (by unfold maxLen; omega) (by omega) hbase fun v' w' h1 h2 _ => hK _ _ (h v' w' ?_ h2)
  unfold OwnWr
  rw [List.length_append, show wWr (l ++ m) = wWr l ++ wWr m by simp [wWr]]
  exact h1
end Go.Proofs.YtkchefbhpbpanaaGreatDoor
/-
  Facts that hang on stretches of blocks, one behind the other.
-/
namespace Go.Proofs.YtkchefbhpbpanaaGreatDoor
open Go.ChangeShapes Go.WideShapes Go.ChangeAt Go.RowKit
/-- What hangs on a stretch within. -/
def Wide (A : Nat → Nat → World → Prop) (lo hi : Nat) (X : World) : Prop := ∃ l h, lo ≤ l ∧ l ≤ h ∧ h ≤ hi ∧ At l h A X
/-- Both, one behind the other. -/
def Bef (A B : Nat → Nat → World → Prop) (lo hi : Nat) (X : World) : Prop := ∃ l h m n, lo ≤ l ∧ l ≤ h ∧ h ≤ m ∧ m ≤ n ∧ n ≤ hi ∧ At l h A X ∧ At m n B X
theorem At.mv {l h lo hi : Nat} {A : Nat → Nat → World → Prop} {X X' : World} (k : At l h A X) (h0 : lo ≤ l) (h1 : h ≤ hi) (s : X.heap.size ≤ X'.heap.size) (hc : ∀ b o, lo ≤ b → b < hi → X'.cell? ⟨b, o, none⟩ = X.cell? ⟨b, o, none⟩ ∧ X'.frozen? ⟨b, o, none⟩ = X.frozen? ⟨b, o, none⟩) : At l h A X' :=
  ⟨Nat.le_trans k.le s, k.dep, k.dep X X' k.le s (fun b o h2 h3 => hc b o (Nat.le_trans h0 h2) (Nat.lt_of_lt_of_le h3 h1)) k.val⟩
theorem Wide.dep (A : Nat → Nat → World → Prop) (lo hi : Nat) : Dep lo hi (Wide A lo hi) := fun X X' _ h2 hc k => by
  obtain ⟨l, h, a, b, c, d⟩ := k
  exact ⟨l, h, a, b, c, d.mv a c h2 hc⟩
theorem Bef.dep (A B : Nat → Nat → World → Prop) (lo hi : Nat) : Dep lo hi (Bef A B lo hi) := fun X X' _ h2 hc k => by
  obtain ⟨l, h, m, n, a, b, c, d, e, f, g⟩ := k
  exact ⟨l, h, m, n, a, b, c, d, e, f.mv a (by omega) h2 hc, g.mv (by omega) e h2 hc⟩
theorem Wide.at {A : Nat → Nat → World → Prop} {l h : Nat} {X : World} (k : At l h A X) (hl : l ≤ h) : At l h (Wide A) X := ⟨k.le, Wide.dep _ _ _, l, h, Nat.le_refl _, hl, Nat.le_refl _, k⟩
theorem Bef.at {A B : Nat → Nat → World → Prop} {l h m n : Nat} {X : World} (k : At l h A X) (j : At m n B X) (hl : l ≤ h ∧ h ≤ m ∧ m ≤ n) : At l n (Bef A B) X := ⟨j.le, Bef.dep _ _ _ _, l, h, m, n, Nat.le_refl _, hl.1, hl.2.1, hl.2.2, Nat.le_refl _, k, j⟩
theorem At.wideW {A : Nat → Nat → World → Prop} {l h lo hi : Nat} {X : World} (k : At l h (Wide A) X) (h0 : lo ≤ l) (h1 : h ≤ hi) (h2 : hi ≤ X.heap.size) : At lo hi (Wide A) X := by
  obtain ⟨a, b, c, d, e, f⟩ := k.val
  exact ⟨h2, Wide.dep _ _ _, a, b, by omega, d, by omega, f⟩
theorem At.wideB {A B : Nat → Nat → World → Prop} {l h lo hi : Nat} {X : World} (k : At l h (Bef A B) X) (h0 : lo ≤ l) (h1 : h ≤ hi) (h2 : hi ≤ X.heap.size) : At lo hi (Bef A B) X := by
  obtain ⟨a, b, c, d, e, f, g, i, j, m, n⟩ := k.val
  exact ⟨h2, Bef.dep _ _ _ _, a, b, c, d, by omega, f, g, i, by omega, m, n⟩
end Go.Proofs.YtkchefbhpbpanaaGreatDoor
/-
  Outcomes in memory.
-/
namespace Go.Proofs.YtkchefbhpbpanaaGreatDoor
open Go.ChangeShapes Go.WideShapes Go.ChangeAt Go.RowKit
structure Mk where
  tm : Int
  gd : Bool
def MkAt (w : World) (b off : Nat) (l : List Mk) : Prop :=
  ∀ (i : Nat) r, l[i]? = some r → w.cell? ⟨b, off + i * 2, none⟩ = some (.int .i64 r.tm) ∧ w.cell? ⟨b, off + i * 2 + 1, none⟩ = some (.bool r.gd)
theorem MkAt.keep {w w' : World} {b off : Nat} {l : List Mk} (h : MkAt w b off l) (hb : Below w.heap.size w w') : MkAt w' b off l := by
  intro i r hr
  obtain ⟨p0, p1⟩ := h i r hr
  exact ⟨by rw [hb.cell (block_lt_of_cell p0)]; exact p0, by rw [hb.cell (block_lt_of_cell p1)]; exact p1⟩
/-- The slice at a holds l. -/
def MkIn (w : World) (a : Option Addr) (l : List Mk) : Prop := l = [] ∨ ∃ b off, a = some ⟨b, off, none⟩ ∧ MkAt w b off l
theorem MkIn.keep {w w' : World} {a : Option Addr} {l : List Mk} (h : MkIn w a l) (hb : Below w.heap.size w w') : MkIn w' a l := by
  rcases h with h | ⟨b, off, e, hat⟩
  · exact .inl h
  · exact .inr ⟨b, off, e, hat.keep hb⟩
theorem dropMk (l : List Mk) (k : Nat) (r : Mk) (h : l[k]? = some r) : l.drop k = r :: l.drop (k + 1) := by
  obtain ⟨hk, rfl⟩ := List.getElem?_eq_some_iff.1 h
  exact List.drop_eq_getElem_cons hk
def szMk (left : Int) (n : Nat) : Int := if left - (n : Int) < 0 then -1 else left - (n : Int)
theorem szMk_room {left : Int} {n : Nat} (h1 : left ≤ 1048576) (h : ¬ szMk left n < 0) : (n : Int) ≤ 1048576 ∧ szMk left n ≤ left ∧ 0 ≤ szMk left n := by
  unfold szMk at h ⊢
  by_cases c0 : left - (n : Int) < 0
  · rw [if_pos c0] at h; omega
  · rw [if_neg c0] at h ⊢; omega
end Go.Proofs.YtkchefbhpbpanaaGreatDoor
/-
  The laws' copy of a list, and their comparing of two.
-/
namespace Go.Proofs.YtkchefbhpbpanaaGreatDoor
open Go.ChangeShapes Go.WideShapes Go.ChangeAt Go.RowKit Go.Sort
/-- m cells from the head of block G on are there and may be written. -/
def RoomMk (w : World) (G m : Nat) : Prop := ∀ j, j < m → (∃ u, w.cell? ⟨G, j, none⟩ = some u) ∧ w.frozen? ⟨G, j, none⟩ = false
theorem RoomMk.keep {w w' : World} {G m : Nat} (h : RoomMk w G m) (hb : Below w.heap.size w w') : RoomMk w' G m := by
  intro j hj
  obtain ⟨⟨u, hu⟩, hf⟩ := h j hj
  exact ⟨⟨u, by rw [hb.cell (block_lt_of_cell hu)]; exact hu⟩, by rw [hb.frozen (block_lt_of_cell hu)]; exact hf⟩
theorem RoomMk.set {w : World} {G m : Nat} (h : RoomMk w G m) (a : Addr) (v : Value) : RoomMk (w.setCell a v) G m := by
  intro j hj
  obtain ⟨⟨u, hu⟩, hf⟩ := h j hj
  refine ⟨?_, by rw [World.frozen?_setCell]; exact hf⟩
  by_cases e : a = ⟨G, j, none⟩
  · exact ⟨v, by subst e; exact World.cell?_setCell_same _ _ _ hu⟩
  · exact ⟨u, by rw [World.cell?_setCell_other _ _ _ _ e]; exact hu⟩
def putMk (w : World) (G k : Nat) (r : Mk) : World := (w.setCell ⟨G, k * 2, none⟩ (.int .i64 r.tm)).setCell ⟨G, k * 2 + 1, none⟩ (.bool r.gd)
theorem offMk_ne {G i j : Nat} (h : i ≠ j) : (⟨G, i, none⟩ : Addr) ≠ ⟨G, j, none⟩ := fun e => h (congrArg Addr.off e)
theorem putMk_other (w : World) (G k : Nat) (r : Mk) (j : Nat) (h0 : k * 2 ≠ j) (h1 : k * 2 + 1 ≠ j) : (putMk w G k r).cell? ⟨G, j, none⟩ = w.cell? ⟨G, j, none⟩ := by
  unfold putMk
  rw [World.cell?_setCell_other _ _ _ _ (offMk_ne h1), World.cell?_setCell_other _ _ _ _ (offMk_ne h0)]
theorem RoomMk.put {w : World} {G m : Nat} (h : RoomMk w G m) (k : Nat) (r : Mk) : RoomMk (putMk w G k r) G m := (h.set _ _).set _ _
theorem MkAt.put {w : World} {G n : Nat} {l : List Mk} {k : Nat} {r : Mk} (h : MkAt w G 0 (l.take k)) (hr : l[k]? = some r) (hm : RoomMk w G (n * 2)) (hk : k < n) : MkAt (putMk w G k r) G 0 (l.take (k + 1)) := by
  intro i q hq
  have hi : i < k + 1 := by
    have := (List.getElem?_eq_some_iff.1 hq).1
    simp at this; omega
  rw [List.getElem?_take_of_lt hi] at hq
  simp only [Nat.zero_add]
  by_cases e : i = k
  · subst e
    rw [hr] at hq
    obtain rfl := Option.some.inj hq
    obtain ⟨⟨u0, g0⟩, _⟩ := hm (i * 2) (by omega)
    obtain ⟨⟨u1, g1⟩, _⟩ := (hm.set ⟨G, i * 2, none⟩ (.int .i64 r.tm)) (i * 2 + 1) (by omega)
    unfold putMk
    exact ⟨by rw [World.cell?_setCell_other _ _ _ _ (offMk_ne (by omega))]; exact World.cell?_setCell_same _ _ _ g0, by exact World.cell?_setCell_same _ _ _ g1⟩
  · have hq2 : (l.take k)[i]? = some q := by rw [List.getElem?_take_of_lt (by omega)]; exact hq
    obtain ⟨a0, a1⟩ := h i q hq2
    simp only [Nat.zero_add] at a0 a1
    exact ⟨by rw [putMk_other _ _ _ _ _ (by omega) (by omega)]; exact a0, by rw [putMk_other _ _ _ _ _ (by omega) (by omega)]; exact a1⟩
end Go.Proofs.YtkchefbhpbpanaaGreatDoor
/-
  A list in a row of one's own: what is appended; new lists.
-/
namespace Go.Proofs.YtkchefbhpbpanaaGreatDoor
open Go.ChangeShapes Go.WideShapes Go.ChangeAt Go.RowKit Go.Sort
def cellMk (r : Mk) : List Value := [.int .i64 r.tm, .bool r.gd]
def wMk (l : List Mk) : List Value := l.flatMap cellMk
theorem wMk_len (l : List Mk) : (wMk l).length = l.length * 2 := by
  induction l with
  | nil => rfl
  | cons r l ih => simp only [wMk, List.flatMap_cons, List.length_append, List.length_cons] at ih ⊢; rw [ih]; simp [cellMk]; omega
theorem wMk_at (l : List Mk) : ∀ (i : Nat) r, l[i]? = some r → (wMk l)[i * 2]? = some (.int .i64 r.tm) ∧ (wMk l)[i * 2 + 1]? = some (.bool r.gd) := by
  induction l with
  | nil => intro i r hr; simp at hr
  | cons x l ih =>
    intro i r hr
    have e : wMk (x :: l) = .int .i64 x.tm :: .bool x.gd :: wMk l := by simp [wMk, cellMk]
    rw [e]
    cases i with
    | zero => simp at hr; subst hr; simp
    | succ i =>
      have := ih i r (by simpa using hr)
      rw [show (i + 1) * 2 = i * 2 + 2 from by omega]
      simpa using this
theorem wMk_one (l : List Mk) : ∀ u ∈ wMk l, u.oneCell' = true := by
  intro u hu
  simp only [wMk, List.mem_flatMap] at hu
  obtain ⟨r, _, hr⟩ := hu
  simp only [cellMk, List.mem_cons, List.not_mem_nil, or_false] at hr
  rcases hr with rfl | rfl <;> rfl
theorem addMk (b off j : Nat) : (⟨b, off, none⟩ : Addr).add j = ⟨b, off + j, none⟩ := by unfold Addr.add; split <;> simp_all
theorem wMk_in {w : World} {a : Option Addr} {l : List Mk} (h : MkIn w a l) : l.length = 0 ∨ ∃ ad, a = some ad ∧ ∀ j u, (wMk l)[j]? = some u → w.cell? (ad.add j) = some u := by
  rcases h with rfl | ⟨b, off, rfl, h⟩
  · exact .inl rfl
  · refine .inr ⟨_, rfl, fun j u hj => ?_⟩
    rw [addMk]
    have hlt : j < (wMk l).length := (List.getElem?_eq_some_iff.1 hj).1
    rw [wMk_len] at hlt
    obtain ⟨r, hr⟩ : ∃ r, l[j / 2]? = some r := ⟨l[j / 2]'(by omega), List.getElem?_eq_getElem _⟩
    obtain ⟨e0, e1⟩ := wMk_at l (j / 2) r hr
    obtain ⟨c0, c1⟩ := h (j / 2) r hr
    obtain hm | hm : j % 2 = 0 ∨ j % 2 = 1 := by omega
    · have ej : j / 2 * 2 = j := by omega
      rw [ej] at e0 c0
      rw [e0] at hj
      rw [← hj]; exact c0
    · have ej : j / 2 * 2 + 1 = j := by omega
      rw [ej] at e1
      rw [Nat.add_assoc, ej] at c1
      rw [e1] at hj
      rw [← hj]; exact c1
/-- v holds l in a block of its own, from base on. -/
def MkNew (w : World) (base : Nat) (v : Value) (l : List Mk) : Prop := (l = [] ∧ ∃ a c, v = .slice a 0 c) ∨ ∃ g off cap, v = .slice (some ⟨g, off, none⟩) l.length cap ∧ base ≤ g ∧ g < w.heap.size ∧ MkAt w g off l ∧ ∀ o, w.frozen? ⟨g, o, none⟩ = false
theorem MkNew.in {w : World} {base : Nat} {v : Value} {l : List Mk} (h : MkNew w base v l) : ∃ a c, v = .slice a l.length c ∧ MkIn w a l := by
  rcases h with ⟨rfl, a, c, rfl⟩ | ⟨g, off, cap, rfl, _, _, h, _⟩
  · exact ⟨a, c, rfl, .inl rfl⟩
  · exact ⟨_, _, rfl, .inr ⟨g, off, rfl, h⟩⟩
theorem MkNew.keep {w w' : World} {base : Nat} {v : Value} {l : List Mk} (h : MkNew w base v l) (hb : Below w.heap.size w w') : MkNew w' base v l := by
  rcases h with h | ⟨g, off, cap, e, h1, h2, h3, h4⟩
  · exact .inl h
  · exact .inr ⟨g, off, cap, e, h1, Nat.lt_of_lt_of_le h2 hb.size, h3.keep hb, fun o => by rw [hb.frozen (p := ⟨g, o, none⟩) h2]; exact h4 o⟩
theorem MkNew.lower {w : World} {b0 base : Nat} {v : Value} {l : List Mk} (h : MkNew w base v l) (hb : b0 ≤ base) : MkNew w b0 v l := by
  rcases h with h | ⟨g, off, cap, e, h1, h2⟩
  · exact .inl h
  · exact .inr ⟨g, off, cap, e, by omega, h2⟩
theorem MkNew.nil (w : World) (base : Nat) (a : Option Addr) (c : Nat) : MkNew w base (.slice a 0 c) [] := .inl ⟨rfl, a, c, rfl⟩
theorem MkAt.one {g G off : Nat} {w w' : World} {l : List Mk} (h : MkAt w G off l) (k : OneB g w w') (hne : G ≠ g) : MkAt w' G off l := by
  intro i r hr
  obtain ⟨p0, p1⟩ := h i r hr
  exact ⟨by rw [k.cell _ hne]; exact p0, by rw [k.cell _ hne]; exact p1⟩
theorem MkNew.one {g : Nat} {w w' : World} {base : Nat} {v : Value} {l : List Mk} (h : MkNew w base v l) (k : OneB g w w') (hne : ∀ G, v.ownBlock = some G → G ≠ g) : MkNew w' base v l := by
  rcases h with h | ⟨G, off, cap, rfl, h1, h2, h3, h4⟩
  · exact .inl h
  · have hn := hne G rfl
    exact .inr ⟨G, off, cap, rfl, h1, by rw [k.size]; exact h2, h3.one k hn, fun o => by rw [k.frozen _ hn]; exact h4 o⟩
theorem MkNew.spot {w : World} {base : Nat} {a : Option Addr} {n c : Nat} {l : List Mk} (h : MkNew w base (.slice a n c) l) : ∃ g off, base ≤ g ∧ (l = [] ∨ (a = some ⟨g, off, none⟩ ∧ MkAt w g off l ∧ ∀ o, o < off + l.length * 2 → w.frozen? ⟨g, o, none⟩ = false)) ∧ (l = [] ∨ g < w.heap.size) := by
  rcases h with ⟨e, _⟩ | ⟨g, off, cap, e, h1, h2, h3, h4⟩
  · exact ⟨base, 0, Nat.le_refl _, .inl e, .inl e⟩
  · simp only [Value.slice.injEq] at e
    obtain ⟨rfl, rfl, rfl⟩ := e
    exact ⟨g, off, h1, .inr ⟨rfl, h3, fun o _ => h4 o⟩, .inr h2⟩
end Go.Proofs.YtkchefbhpbpanaaGreatDoor
/-
  A new list, marked; held.
-/
namespace Go.Proofs.YtkchefbhpbpanaaGreatDoor
open Go.ChangeShapes Go.WideShapes Go.ChangeAt Go.RowKit Go.Sort
/-- l, marked from k on. -/
def mkdMk : Nat → List Mk → List Mk
  | _, [] => []
  | k, _ :: l => ⟨(k : Int), (((k : Int) + 1) % 3 == 0)⟩ :: mkdMk (k + 2) l
theorem mkdMk_len : ∀ (l : List Mk) (k : Nat), (mkdMk k l).length = l.length
  | [], _ => rfl
  | _ :: l, k => by rw [mkdMk, List.length_cons, mkdMk_len l, List.length_cons]
theorem mkdMk_at : ∀ (l : List Mk) (k i : Nat), i < l.length → (mkdMk k l)[i]? = some ⟨((k + i * 2 : Nat) : Int), ((((k + i * 2 : Nat) : Int) + 1) % 3 == 0)⟩
  | [], _, _, h => by simp at h
  | x :: l, k, 0, _ => by simp [mkdMk]
  | x :: l, k, i + 1, h => by
    rw [mkdMk, List.getElem?_cons_succ, mkdMk_at l (k + 2) i (by simpa using h), show k + 2 + i * 2 = k + (i + 1) * 2 by omega]
theorem mkdMk_append : ∀ (A B : List Mk) (k : Nat), mkdMk k (A ++ B) = mkdMk k A ++ mkdMk (k + A.length * 2) B
  | [], B, k => by simp [mkdMk]
  | x :: A, B, k => by rw [List.cons_append, mkdMk, mkdMk, List.cons_append, mkdMk_append A B (k + 2), List.length_cons, show k + 2 + A.length * 2 = k + (A.length + 1) * 2 by omega]
/-- The first i of l are marked from k on. -/
theorem MkAt.mark1 {w : World} {g off k i : Nat} {l : List Mk} (h : MkAt w g off (mkdMk k (l.take i) ++ l.drop i)) (hi : i < l.length) :
    MkAt (((w.setCell ⟨g, off + i * 2, none⟩ (.int .i64 (((k + i * 2 : Nat) : Int)))).setCell ⟨g, off + i * 2 + 1, none⟩ (.bool ((((k + i * 2 : Nat) : Int) + 1) % 3 == 0)))) g off (mkdMk k (l.take (i + 1)) ++ l.drop (i + 1)) := by
  have len : (mkdMk k (l.take i) ++ l.drop i).length = l.length := by rw [List.length_append, mkdMk_len, ← List.length_append, List.take_append_drop]
  have lti : (l.take i).length = i := by rw [List.length_take]; omega
  have key : ∀ (q : Nat) r, (mkdMk k (l.take (i + 1)) ++ l.drop (i + 1))[q]? = some r → q = i ∧ r = ⟨((k + i * 2 : Nat) : Int), ((((k + i * 2 : Nat) : Int) + 1) % 3 == 0)⟩ ∨ q ≠ i ∧ (mkdMk k (l.take i) ++ l.drop i)[q]? = some r := by
    intro q r hr
    have e1 : l.take (i + 1) = l.take i ++ [l[i]] := List.take_succ_eq_append_getElem hi
    rw [e1, mkdMk_append, lti, List.append_assoc] at hr
    rw [List.drop_eq_getElem_cons hi]
    by_cases h1 : q < i
    · refine .inr ⟨by omega, ?_⟩
      rw [List.getElem?_append_left (by rw [mkdMk_len, lti]; exact h1)] at hr ⊢
      exact hr
    · rw [List.getElem?_append_right (by rw [mkdMk_len, lti]; omega), mkdMk_len, lti] at hr
      by_cases h2 : q = i
      · subst h2
        left
        rw [Nat.sub_self] at hr
        simp only [mkdMk, List.singleton_append, List.getElem?_cons_zero, Option.some.injEq] at hr
        exact ⟨rfl, hr.symm⟩
      · right
        refine ⟨h2, ?_⟩
        rw [List.getElem?_append_right (by rw [mkdMk_len, lti]; omega), mkdMk_len, lti]
        obtain ⟨d, hd⟩ : ∃ d, q - i = d + 1 := ⟨q - i - 1, by omega⟩
        rw [hd] at hr ⊢
        simp [mkdMk] at hr ⊢
        rw [show i + (d + 1) = i + 1 + d by omega]
        exact hr
  have there : ∀ j, j < 2 → ∃ u, w.cell? ⟨g, off + i * 2 + j, none⟩ = some u := by
    intro j hj
    obtain ⟨r, hr⟩ : ∃ r, (mkdMk k (l.take i) ++ l.drop i)[i]? = some r := ⟨_, List.getElem?_eq_getElem (by rw [len]; exact hi)⟩
    obtain ⟨p0, p1⟩ := h i r hr
    match j, hj with
    | 0, _ => exact ⟨_, p0⟩
    | 1, _ => exact ⟨_, p1⟩
  intro q r hr
  rcases key q r hr with ⟨rfl, rfl⟩ | ⟨hq, hr2⟩
  · obtain ⟨u0, g0⟩ : ∃ u, (w).cell? ⟨g, off + q * 2, none⟩ = some u := by
      obtain ⟨u, hu⟩ := there 0 (by omega)
      exact ⟨u, by simpa using hu⟩
    obtain ⟨u1, g1⟩ : ∃ u, ((w.setCell ⟨g, off + q * 2, none⟩ (.int .i64 (((k + q * 2 : Nat) : Int))))).cell? ⟨g, off + q * 2 + 1, none⟩ = some u := by
      obtain ⟨u, hu⟩ := there 1 (by omega)
      refine ⟨u, ?_⟩
      rw [World.cell?_setCell_other _ _ _ _ (offMk_ne (by omega))]
      exact hu
    exact ⟨by rw [World.cell?_setCell_other _ _ _ _ (offMk_ne (by omega))]; exact World.cell?_setCell_same _ _ _ g0, by exact World.cell?_setCell_same _ _ _ g1⟩
  · obtain ⟨p0, p1⟩ := h q r hr2
    exact ⟨by rw [World.cell?_setCell_other _ _ _ _ (offMk_ne (by omega)), World.cell?_setCell_other _ _ _ _ (offMk_ne (by omega))]; exact p0, by rw [World.cell?_setCell_other _ _ _ _ (offMk_ne (by omega)), World.cell?_setCell_other _ _ _ _ (offMk_ne (by omega))]; exact p1⟩
end Go.Proofs.YtkchefbhpbpanaaGreatDoor
/-
  PolicyFault, on both sides; policies that lie in memory.
-/
namespace Go.Proofs.YtkchefbhpbpanaaGreatDoor
open Go.ChangeShapes Go.WideShapes Go.ChangeAt Go.RowKit
/-- A policy in memory. -/
structure PolAt (w : World) (b : Nat) (b0 b1 b2 : Bool) (l s e g : Int) : Prop where
  c0 : w.cell? ⟨b, 0, none⟩ = some (.bool b0)
  c1 : w.cell? ⟨b, 1, none⟩ = some (.bool b1)
  c2 : w.cell? ⟨b, 2, none⟩ = some (.bool b2)
  c3 : w.cell? ⟨b, 3, none⟩ = some (.int .i64 l)
  c4 : w.cell? ⟨b, 4, none⟩ = some (.int .i64 s)
  c5 : w.cell? ⟨b, 5, none⟩ = some (.int .i64 e)
  c6 : w.cell? ⟨b, 6, none⟩ = some (.int .i64 g)
  fr : ∀ o, w.frozen? ⟨b, o, none⟩ = false
  lt : b < w.heap.size
theorem PolAt.keep {w w' : World} {b : Nat} {b0 b1 b2 : Bool} {l s e g : Int} (k : PolAt w b b0 b1 b2 l s e g) (hb : Below w.heap.size w w') : PolAt w' b b0 b1 b2 l s e g :=
  ⟨by rw [hb.cell (p := ⟨b, 0, none⟩) k.lt]; exact k.c0, by rw [hb.cell (p := ⟨b, 1, none⟩) k.lt]; exact k.c1, by rw [hb.cell (p := ⟨b, 2, none⟩) k.lt]; exact k.c2, by rw [hb.cell (p := ⟨b, 3, none⟩) k.lt]; exact k.c3, by rw [hb.cell (p := ⟨b, 4, none⟩) k.lt]; exact k.c4, by rw [hb.cell (p := ⟨b, 5, none⟩) k.lt]; exact k.c5, by rw [hb.cell (p := ⟨b, 6, none⟩) k.lt]; exact k.c6,
    fun o => by rw [hb.frozen (p := ⟨b, o, none⟩) k.lt]; exact k.fr o, Nat.lt_of_lt_of_le k.lt hb.size⟩
theorem PolAt.new (w : World) (b0 b1 b2 : Bool) (l s e g : Int) (t : TypeId) : PolAt (w.alloc (.cells #[.bool b0, .bool b1, .bool b2, .int .i64 l, .int .i64 s, .int .i64 e, .int .i64 g] t)) w.heap.size b0 b1 b2 l s e g :=
  ⟨by simp, by simp, by simp, by simp, by simp, by simp, by simp, fun o => by simp, by simp⟩
def timeB (x : Int) : Bool := decide (0 ≤ x) && decide (x ≤ 1000000000000000)
theorem timeB_yes {x : Int} (h0 : 0 ≤ x) (h1 : x ≤ 1000000000000000) : timeB x = true := by simp [timeB, h0, h1]
theorem timeB_of {x : Int} (h : timeB x = true) : 0 ≤ x ∧ x ≤ 1000000000000000 := by simpa [timeB] using h
theorem l1Time_all (x : Int) (w : World) : Calls Tryz.prog 38 #[.int .i64 x] w fun r w' => r = .returned (.bool (timeB x)) ∧ w' = w := by
  by_cases c1 : 0 ≤ x
  · by_cases c2 : x ≤ 1000000000000000
    · rw [timeB_yes c1 c2]
      have d2 : decide (x ≤ 1000000000000000) = true := by simp; omega
      go_enter Tryz.func38, Tryz.ntmps38
      go_wp2
      go_ret
      exact ⟨rfl, rfl⟩
    · have e : timeB x = false := by simp [timeB]; omega
      rw [e]
      have d2 : decide (x ≤ 1000000000000000) = false := by simp; omega
      go_enter Tryz.func38, Tryz.ntmps38
      go_wp2
      go_ret
      exact ⟨rfl, rfl⟩
  · have e : timeB x = false := by simp [timeB]; omega
    rw [e]
    go_enter Tryz.func38, Tryz.ntmps38
    go_wp2
    go_ret
    exact ⟨rfl, rfl⟩
theorem isTime_all (x : Int) (w : World) : Calls Tryz.prog 56 #[.int .i64 x] w fun r w' => r = .returned (.bool (timeB x)) ∧ w' = w := by
  by_cases c1 : 0 ≤ x
  · by_cases c2 : x ≤ 1000000000000000
    · rw [timeB_yes c1 c2]
      have d2 : decide (x ≤ 1000000000000000) = true := by simp; omega
      go_enter Tryz.func56, Tryz.ntmps56
      go_wp2
      go_ret
      exact ⟨rfl, rfl⟩
    · have e : timeB x = false := by simp [timeB]; omega
      rw [e]
      have d2 : decide (x ≤ 1000000000000000) = false := by simp; omega
      go_enter Tryz.func56, Tryz.ntmps56
      go_wp2
      go_ret
      exact ⟨rfl, rfl⟩
  · have e : timeB x = false := by simp [timeB]; omega
    rw [e]
    go_enter Tryz.func56, Tryz.ntmps56
    go_wp2
    go_ret
    exact ⟨rfl, rfl⟩
def polB (l s e g : Int) : Bool := (timeB l || decide (l = -1)) && timeB s && timeB e && timeB g
def polC (l s e g : Int) : Int := if polB l s e g = true then 0 else 3
theorem polC_ok {l s e g : Int} (h : polB l s e g = true) : polC l s e g = 0 := by rw [polC, if_pos h]
theorem polC_bad {l s e g : Int} (h : polB l s e g = false) : polC l s e g = 3 := by rw [polC, if_neg (by rw [h]; decide)]
end Go.Proofs.YtkchefbhpbpanaaGreatDoor
/-
  StoreLife, on both sides.
-/
namespace Go.Proofs.YtkchefbhpbpanaaGreatDoor
open Go.ChangeShapes Go.WideShapes Go.ChangeAt Go.RowKit
/-- Two cells that may be written. -/
structure IR (w : World) (b : Nat) (v0 v1 : Value) : Prop where
  c0 : w.cell? ⟨b, 0, none⟩ = some v0
  c1 : w.cell? ⟨b, 1, none⟩ = some v1
  fr : ∀ o, w.frozen? ⟨b, o, none⟩ = false
  lt : b < w.heap.size
theorem IR.keep {w w' : World} {b : Nat} {v0 v1 : Value} (k : IR w b v0 v1) (hb : Below w.heap.size w w') : IR w' b v0 v1 :=
  ⟨by rw [hb.cell (p := ⟨b, 0, none⟩) k.lt]; exact k.c0, by rw [hb.cell (p := ⟨b, 1, none⟩) k.lt]; exact k.c1, fun o => by rw [hb.frozen (p := ⟨b, o, none⟩) k.lt]; exact k.fr o, Nat.lt_of_lt_of_le k.lt hb.size⟩
theorem IR.new (w : World) (v0 v1 : Value) (t : TypeId) : IR (w.alloc (.cells #[v0, v1] t)) w.heap.size v0 v1 :=
  ⟨by rw [World.cell?_alloc_mark]; rfl, by rw [World.cell?_alloc_mark]; rfl, fun o => by have e := heap_alloc_new w (.cells #[v0, v1] t); unfold World.frozen?; rw [e]; simp, by simp⟩
def statB (st : Int) : Bool := decide (st = 200) || decide (st = 404) || decide (st = 410)
/-- Whether an answer may be kept. -/
def keepB (b0 : Bool) (l st : Int) : Bool := !b0 && statB st && !(decide (st = 200) && decide (l = -1))
def lifeX (l ng : Int) : Int := if l = -1 then ng else l
def rangeB (st ng : Int) : Bool := decide (200 ≤ st) && decide (st ≤ 599) && timeB ng
def lifeC (b0 : Bool) (l s e g st ng : Int) : Int := if polB l s e g = true then (if rangeB st ng = true then (if keepB b0 l st = true then 0 else 4) else 3) else 3
def lifeV (b0 : Bool) (l s e g st ng : Int) : Int := if lifeC b0 l s e g st ng = 0 then lifeX l ng else 0
theorem life_pol {b0 : Bool} {l s e g st ng : Int} (h : polB l s e g = false) : lifeC b0 l s e g st ng = 3 ∧ lifeV b0 l s e g st ng = 0 := by
  have c : lifeC b0 l s e g st ng = 3 := by rw [lifeC, if_neg (by rw [h]; decide)]
  exact ⟨c, by rw [lifeV, c, if_neg (by decide)]⟩
theorem life_range {b0 : Bool} {l s e g st ng : Int} (h : polB l s e g = true) (h2 : rangeB st ng = false) : lifeC b0 l s e g st ng = 3 ∧ lifeV b0 l s e g st ng = 0 := by
  have c : lifeC b0 l s e g st ng = 3 := by rw [lifeC, if_pos h, if_neg (by rw [h2]; decide)]
  exact ⟨c, by rw [lifeV, c, if_neg (by decide)]⟩
theorem life_none {b0 : Bool} {l s e g st ng : Int} (h : polB l s e g = true) (h2 : rangeB st ng = true) (h3 : keepB b0 l st = false) : lifeC b0 l s e g st ng = 4 ∧ lifeV b0 l s e g st ng = 0 := by
  have c : lifeC b0 l s e g st ng = 4 := by rw [lifeC, if_pos h, if_pos h2, if_neg (by rw [h3]; decide)]
  exact ⟨c, by rw [lifeV, c, if_neg (by decide)]⟩
theorem life_ok {b0 : Bool} {l s e g st ng : Int} (h : polB l s e g = true) (h2 : rangeB st ng = true) (h3 : keepB b0 l st = true) : lifeC b0 l s e g st ng = 0 ∧ lifeV b0 l s e g st ng = lifeX l ng := by
  have c : lifeC b0 l s e g st ng = 0 := by rw [lifeC, if_pos h, if_pos h2, if_pos h3]
  exact ⟨c, by rw [lifeV, if_pos c]⟩
theorem lifeX_told {l ng : Int} (h : ¬ l = -1) : lifeX l ng = l := by rw [lifeX, if_neg h]
theorem lifeX_not {ng : Int} : lifeX (-1) ng = ng := by rw [lifeX, if_pos rfl]
theorem l1In_all (x lo hi : Int) (w : World) : Calls Tryz.prog 39 #[.int .i64 x, .int .i64 lo, .int .i64 hi] w fun r w' => r = .returned (.bool (decide (lo ≤ x) && decide (x ≤ hi))) ∧ w' = w := by
  by_cases c1 : lo ≤ x
  · by_cases c2 : x ≤ hi
    · have e : (decide (lo ≤ x) && decide (x ≤ hi)) = true := by simp [c1, c2]
      rw [e]
      have d2 : decide (x ≤ hi) = true := by simp [c2]
      go_enter Tryz.func39, Tryz.ntmps39
      go_wp2
      go_ret
      exact ⟨rfl, rfl⟩
    · have e : (decide (lo ≤ x) && decide (x ≤ hi)) = false := by simp [c2]
      rw [e]
      have d2 : decide (x ≤ hi) = false := by simp [c2]
      go_enter Tryz.func39, Tryz.ntmps39
      go_wp2
      go_ret
      exact ⟨rfl, rfl⟩
  · have e : (decide (lo ≤ x) && decide (x ≤ hi)) = false := by simp [c1]
    rw [e]
    go_enter Tryz.func39, Tryz.ntmps39
    go_wp2
    go_ret
    exact ⟨rfl, rfl⟩
def lifeT (b0 : Bool) (l st ng : Int) : Value := .tuple #[.int .i64 (if keepB b0 l st = true then lifeX l ng else 0), .bool (keepB b0 l st)]
end Go.Proofs.YtkchefbhpbpanaaGreatDoor
/-
  What AddTime's model and AddTime itself answer, for any two numbers: one contract a function and a case.
-/
namespace Go.Proofs.YtkchefbhpbpanaaGreatDoor
open Go.ChangeShapes Go.WideShapes Go.ChangeAt Go.RowKit
end Go.Proofs.YtkchefbhpbpanaaGreatDoor
/-
  What is kept with an answer: faults, ages and phases, on both sides.
-/
namespace Go.Proofs.YtkchefbhpbpanaaGreatDoor
open Go.ChangeShapes Go.WideShapes Go.ChangeAt Go.RowKit
/-- What is kept with an answer, in memory. -/
structure MetaAt (w : World) (b : Nat) (t g l s e : Int) (b1 b2 : Bool) : Prop where
  c0 : w.cell? ⟨b, 0, none⟩ = some (.int .i64 t)
  c1 : w.cell? ⟨b, 1, none⟩ = some (.int .i64 g)
  c2 : w.cell? ⟨b, 2, none⟩ = some (.int .i64 l)
  c3 : w.cell? ⟨b, 3, none⟩ = some (.int .i64 s)
  c4 : w.cell? ⟨b, 4, none⟩ = some (.int .i64 e)
  c5 : w.cell? ⟨b, 5, none⟩ = some (.bool b1)
  c6 : w.cell? ⟨b, 6, none⟩ = some (.bool b2)
  fr : ∀ o, w.frozen? ⟨b, o, none⟩ = false
  lt : b < w.heap.size
theorem MetaAt.keep {w w' : World} {b : Nat} {t g l s e : Int} {b1 b2 : Bool} (k : MetaAt w b t g l s e b1 b2) (hb : Below w.heap.size w w') : MetaAt w' b t g l s e b1 b2 :=
  ⟨by rw [hb.cell (p := ⟨b, 0, none⟩) k.lt]; exact k.c0, by rw [hb.cell (p := ⟨b, 1, none⟩) k.lt]; exact k.c1, by rw [hb.cell (p := ⟨b, 2, none⟩) k.lt]; exact k.c2, by rw [hb.cell (p := ⟨b, 3, none⟩) k.lt]; exact k.c3, by rw [hb.cell (p := ⟨b, 4, none⟩) k.lt]; exact k.c4, by rw [hb.cell (p := ⟨b, 5, none⟩) k.lt]; exact k.c5, by rw [hb.cell (p := ⟨b, 6, none⟩) k.lt]; exact k.c6,
    fun o => by rw [hb.frozen (p := ⟨b, o, none⟩) k.lt]; exact k.fr o, Nat.lt_of_lt_of_le k.lt hb.size⟩
theorem MetaAt.new (w : World) (t g l s e : Int) (b1 b2 : Bool) (x : TypeId) : MetaAt (w.alloc (.cells #[.int .i64 t, .int .i64 g, .int .i64 l, .int .i64 s, .int .i64 e, .bool b1, .bool b2] x)) w.heap.size t g l s e b1 b2 :=
  ⟨by simp, by simp, by simp, by simp, by simp, by simp, by simp, fun o => by simp, by simp⟩
def addT (a b : Int) : Int := if 1000000000000000 < a + b then 1000000000000000 else a + b
theorem addT_time {a b : Int} (ha : 0 ≤ a) (hb : 0 ≤ b) : 0 ≤ addT a b ∧ addT a b ≤ 1000000000000000 := by unfold addT; split <;> omega
def metaB (t g l s e : Int) : Bool := timeB t && timeB g && timeB l && timeB s && timeB e
def metaC (t g l s e : Int) : Int := if metaB t g l s e = true then 0 else 3
theorem metaC_ok {t g l s e : Int} (h : metaB t g l s e = true) : metaC t g l s e = 0 := by rw [metaC, if_pos h]
theorem metaC_bad {t g l s e : Int} (h : metaB t g l s e = false) : metaC t g l s e = 3 := by rw [metaC, if_neg (by rw [h]; decide)]
theorem metaB_of {t g l s e : Int} (h : metaB t g l s e = true) : (0 ≤ t ∧ t ≤ 1000000000000000) ∧ (0 ≤ g ∧ g ≤ 1000000000000000) ∧ (0 ≤ l ∧ l ≤ 1000000000000000) ∧ (0 ≤ s ∧ s ≤ 1000000000000000) ∧ (0 ≤ e ∧ e ≤ 1000000000000000) := by
  simp only [metaB, Bool.and_eq_true] at h
  exact ⟨timeB_of h.1.1.1.1, timeB_of h.1.1.1.2, timeB_of h.1.1.2, timeB_of h.1.2, timeB_of h.2⟩
def askB (t g l s e n : Int) : Bool := metaB t g l s e && timeB n && decide (t ≤ n)
def askM (t g l s e n : Int) : Int := if askB t g l s e n = true then 0 else 3
theorem askM_ok {t g l s e n : Int} (h : askB t g l s e n = true) : askM t g l s e n = 0 := by rw [askM, if_pos h]
theorem askM_bad {t g l s e n : Int} (h : askB t g l s e n = false) : askM t g l s e n = 3 := by rw [askM, if_neg (by rw [h]; decide)]
theorem askB_of {t g l s e n : Int} (h : askB t g l s e n = true) : metaB t g l s e = true ∧ (0 ≤ n ∧ n ≤ 1000000000000000) ∧ t ≤ n := by
  simp only [askB, Bool.and_eq_true, decide_eq_true_eq] at h
  exact ⟨h.1.1, timeB_of h.1.2, h.2⟩
def ageM (t g n : Int) : Int := addT g (n - t)
def ageA (t g l s e n : Int) : Int := if askB t g l s e n = true then ageM t g n else 0
theorem ageA_ok {t g l s e n : Int} (h : askB t g l s e n = true) : ageA t g l s e n = ageM t g n := by rw [ageA, if_pos h]
theorem ageA_bad {t g l s e n : Int} (h : askB t g l s e n = false) : ageA t g l s e n = 0 := by rw [ageA, if_neg (by rw [h]; decide)]
def lifeM (l : Int) (b1 b2 : Bool) : Int := if (b1 || b2) = true then 0 else l
/-- The phase of an answer of this age, with this life. -/
def phaseV (a li s e : Int) (b2 : Bool) : Int := if a < li then 1 else if (!b2 && decide (a < addT li s)) = true then 2 else if a < addT li e then 3 else 0
def phaseM (t g l s e : Int) (b1 b2 : Bool) (n : Int) : Int := phaseV (ageM t g n) (lifeM l b1 b2) s e b2
def phaseA (t g l s e : Int) (b1 b2 : Bool) (n : Int) : Int := if askB t g l s e n = true then phaseM t g l s e b1 b2 n else 0
theorem phaseA_ok {t g l s e n : Int} {b1 b2 : Bool} (h : askB t g l s e n = true) : phaseA t g l s e b1 b2 n = phaseM t g l s e b1 b2 n := by rw [phaseA, if_pos h]
theorem phaseA_bad {t g l s e n : Int} {b1 b2 : Bool} (h : askB t g l s e n = false) : phaseA t g l s e b1 b2 n = 0 := by rw [phaseA, if_neg (by rw [h]; decide)]
theorem phase1 {a li s e : Int} {b2 : Bool} (h : a < li) : phaseV a li s e b2 = 1 := by rw [phaseV, if_pos h]
theorem phase2 {a li s e : Int} {b2 : Bool} (h : ¬ a < li) (h2 : (!b2 && decide (a < addT li s)) = true) : phaseV a li s e b2 = 2 := by rw [phaseV, if_neg h, if_pos h2]
theorem phase3 {a li s e : Int} {b2 : Bool} (h : ¬ a < li) (h2 : ¬ (!b2 && decide (a < addT li s)) = true) (h3 : a < addT li e) : phaseV a li s e b2 = 3 := by rw [phaseV, if_neg h, if_neg h2, if_pos h3]
theorem phase0 {a li s e : Int} {b2 : Bool} (h : ¬ a < li) (h2 : ¬ (!b2 && decide (a < addT li s)) = true) (h3 : ¬ a < addT li e) : phaseV a li s e b2 = 0 := by rw [phaseV, if_neg h, if_neg h2, if_neg h3]
theorem lifeM_time {l : Int} {b1 b2 : Bool} (h : 0 ≤ l ∧ l ≤ 1000000000000000) : 0 ≤ lifeM l b1 b2 ∧ lifeM l b1 b2 ≤ 1000000000000000 := by unfold lifeM; split <;> omega
theorem ageM_time {t g n : Int} (h : 0 ≤ g) (h2 : t ≤ n) : 0 ≤ ageM t g n ∧ ageM t g n ≤ 1000000000000000 := addT_time h (by omega)
end Go.Proofs.YtkchefbhpbpanaaGreatDoor
/-
  Numbers within bounds; RulesFault, on both sides; a copy of rules.
-/
namespace Go.Proofs.YtkchefbhpbpanaaGreatDoor
open Go.ChangeShapes Go.WideShapes Go.ChangeAt Go.RowKit Go.Sort
def inW (lo hi x : Int) : Bool := decide (lo ≤ x) && decide (x ≤ hi)
theorem inW_yes {lo hi x : Int} (h0 : lo ≤ x) (h1 : x ≤ hi) : inW lo hi x = true := by simp [inW, h0, h1]
theorem inW_of {lo hi x : Int} (h : inW lo hi x = true) : lo ≤ x ∧ x ≤ hi := by simpa [inW] using h
theorem l1In_w (x lo hi : Int) (w : World) : Calls Tryz.prog 39 #[.int .i64 x, .int .i64 lo, .int .i64 hi] w fun r w' => r = .returned (.bool (inW lo hi x)) ∧ w' = w := by
  by_cases c1 : lo ≤ x
  · by_cases c2 : x ≤ hi
    · rw [inW_yes c1 c2]
      have d2 : decide (x ≤ hi) = true := by simpa using c2
      go_enter Tryz.func39, Tryz.ntmps39
      go_wp2
      go_ret
      exact ⟨rfl, rfl⟩
    · have e : inW lo hi x = false := by simp [inW]; omega
      rw [e]
      have d2 : decide (x ≤ hi) = false := by simpa using c2
      go_enter Tryz.func39, Tryz.ntmps39
      go_wp2
      go_ret
      exact ⟨rfl, rfl⟩
  · have e : inW lo hi x = false := by simp [inW]; omega
    rw [e]
    go_enter Tryz.func39, Tryz.ntmps39
    go_wp2
    go_ret
    exact ⟨rfl, rfl⟩
theorem isWithin_all (x lo hi : Int) (w : World) : Calls Tryz.prog 45 #[.int .i64 x, .int .i64 lo, .int .i64 hi] w fun r w' => r = .returned (.bool (inW lo hi x)) ∧ w' = w := by
  by_cases c1 : lo ≤ x
  · by_cases c2 : x ≤ hi
    · rw [inW_yes c1 c2]
      have d2 : decide (x ≤ hi) = true := by simpa using c2
      go_enter Tryz.func45, Tryz.ntmps45
      go_wp2
      go_ret
      exact ⟨rfl, rfl⟩
    · have e : inW lo hi x = false := by simp [inW]; omega
      rw [e]
      have d2 : decide (x ≤ hi) = false := by simpa using c2
      go_enter Tryz.func45, Tryz.ntmps45
      go_wp2
      go_ret
      exact ⟨rfl, rfl⟩
  · have e : inW lo hi x = false := by simp [inW]; omega
    rw [e]
    go_enter Tryz.func45, Tryz.ntmps45
    go_wp2
    go_ret
    exact ⟨rfl, rfl⟩
def rulesB (a0 a1 a2 a3 a4 : Int) : Bool := inW 1 1000000 a0 && inW 1 50 a1 && inW 1 1000 a2 && inW 0 1000000 a3 && inW 1 5 a4
def rulesC (a0 a1 a2 a3 a4 : Int) : Int := if rulesB a0 a1 a2 a3 a4 = true then 0 else 3
theorem rulesC_ok {a0 a1 a2 a3 a4 : Int} (h : rulesB a0 a1 a2 a3 a4 = true) : rulesC a0 a1 a2 a3 a4 = 0 := by rw [rulesC, if_pos h]
theorem rulesC_bad {a0 a1 a2 a3 a4 : Int} (h : rulesB a0 a1 a2 a3 a4 = false) : rulesC a0 a1 a2 a3 a4 = 3 := by rw [rulesC, if_neg (by rw [h]; decide)]
theorem rulesB_of {a0 a1 a2 a3 a4 : Int} (h : rulesB a0 a1 a2 a3 a4 = true) : (1 ≤ a0 ∧ a0 ≤ 1000000) ∧ (1 ≤ a1 ∧ a1 ≤ 50) ∧ (1 ≤ a2 ∧ a2 ≤ 1000) ∧ (0 ≤ a3 ∧ a3 ≤ 1000000) ∧ (1 ≤ a4 ∧ a4 ≤ 5) := by
  simp only [rulesB, Bool.and_eq_true] at h
  exact ⟨inW_of h.1.1.1.1, inW_of h.1.1.1.2, inW_of h.1.1.2, inW_of h.1.2, inW_of h.2⟩
end Go.Proofs.YtkchefbhpbpanaaGreatDoor
/-
  What is asked of a breaker, in plain words.
-/
namespace Go.Proofs.YtkchefbhpbpanaaGreatDoor
open Go.ChangeShapes Go.WideShapes Go.ChangeAt Go.RowKit Go.Sort
def brkHB (s t o : Int) : Bool := inW 0 2 s && timeB t && inW 0 5 o
def timesM (l : List Mk) : Bool := l.all fun r => timeB r.tm
def sortedM : List Mk → Bool
  | [] => true
  | [_] => true
  | x :: y :: l => decide (x.tm ≤ y.tm) && sortedM (y :: l)
def stateB (s o : Int) (n : Nat) : Bool := (decide (n = 0) || decide (s = 0)) && (decide (o = 0) || decide (s = 2))
def brkC (s t o : Int) (l : List Mk) : Int := if brkHB s t o = false then 3 else if 60 < l.length then 2 else if timesM l = false then 3 else if sortedM l = false then 1 else if stateB s o l.length = false then 8 else 0
theorem sortedM_iff : ∀ l : List Mk, sortedM l = true ↔ ∀ (i : Nat) x y, l[i]? = some x → l[i + 1]? = some y → x.tm ≤ y.tm
  | [] => by simp [sortedM]
  | [z] => by
    simp only [sortedM, true_iff]
    intro i x y _ hy
    simp at hy
  | x :: y :: l => by
    rw [sortedM, Bool.and_eq_true, decide_eq_true_eq, sortedM_iff (y :: l)]
    constructor
    · rintro ⟨h0, h⟩ i u v hu hv
      cases i with
      | zero =>
        simp only [List.getElem?_cons_zero, Option.some.injEq, Nat.zero_add, List.getElem?_cons_succ] at hu hv
        subst hu; subst hv; exact h0
      | succ i => exact h i u v (by simpa using hu) (by simpa using hv)
    · intro h
      exact ⟨h 0 x y (by simp) (by simp), fun i u v hu hv => h (i + 1) u v (by simpa using hu) (by simpa using hv)⟩
theorem timesM_iff (l : List Mk) : timesM l = true ↔ ∀ (i : Nat) x, l[i]? = some x → timeB x.tm = true := by
  unfold timesM
  rw [List.all_eq_true]
  constructor
  · intro h i x hx
    exact h x (List.mem_of_getElem? hx)
  · intro h x hx
    obtain ⟨i, hi⟩ := List.getElem?_of_mem hx
    exact h i x hi
theorem timesM_no {l : List Mk} {i : Nat} {x : Mk} (hx : l[i]? = some x) (h : timeB x.tm = false) : timesM l = false := by
  cases e : timesM l with
  | false => rfl
  | true => rw [(timesM_iff l).1 e i x hx] at h; cases h
theorem sortedM_no {l : List Mk} {i : Nat} {x y : Mk} (hx : l[i]? = some x) (hy : l[i + 1]? = some y) (h : y.tm < x.tm) : sortedM l = false := by
  cases e : sortedM l with
  | false => rfl
  | true => have := (sortedM_iff l).1 e i x y hx hy; omega
theorem brkC_head {s t o : Int} {l : List Mk} (h : brkHB s t o = false) : brkC s t o l = 3 := by rw [brkC, if_pos h]
theorem brkC_many {s t o : Int} {l : List Mk} (h : brkHB s t o = true) (h2 : 60 < l.length) : brkC s t o l = 2 := by rw [brkC, if_neg (by rw [h]; decide), if_pos h2]
theorem brkC_time {s t o : Int} {l : List Mk} (h : brkHB s t o = true) (h2 : ¬ 60 < l.length) (h3 : timesM l = false) : brkC s t o l = 3 := by rw [brkC, if_neg (by rw [h]; decide), if_neg h2, if_pos h3]
theorem brkC_form {s t o : Int} {l : List Mk} (h : brkHB s t o = true) (h2 : ¬ 60 < l.length) (h3 : timesM l = true) (h4 : sortedM l = false) : brkC s t o l = 1 := by rw [brkC, if_neg (by rw [h]; decide), if_neg h2, if_neg (by rw [h3]; decide), if_pos h4]
theorem brkC_state {s t o : Int} {l : List Mk} (h : brkHB s t o = true) (h2 : ¬ 60 < l.length) (h3 : timesM l = true) (h4 : sortedM l = true) (h5 : stateB s o l.length = false) : brkC s t o l = 8 := by rw [brkC, if_neg (by rw [h]; decide), if_neg h2, if_neg (by rw [h3]; decide), if_neg (by rw [h4]; decide), if_pos h5]
theorem brkC_ok {s t o : Int} {l : List Mk} (h : brkHB s t o = true) (h2 : ¬ 60 < l.length) (h3 : timesM l = true) (h4 : sortedM l = true) (h5 : stateB s o l.length = true) : brkC s t o l = 0 := by rw [brkC, if_neg (by rw [h]; decide), if_neg h2, if_neg (by rw [h3]; decide), if_neg (by rw [h4]; decide), if_neg (by rw [h5]; decide)]
theorem brkC_of {s t o : Int} {l : List Mk} (h : brkC s t o l = 0) : brkHB s t o = true ∧ l.length ≤ 60 ∧ timesM l = true ∧ sortedM l = true ∧ stateB s o l.length = true := by
  unfold brkC at h
  split at h
  · cases h
  · split at h
    · cases h
    · split at h
      · cases h
      · split at h
        · cases h
        · split at h
          · cases h
          · rename_i h1 h2 h3 h4 h5
            exact ⟨by simpa using h1, by omega, by simpa using h3, by simpa using h4, by simpa using h5⟩
def badM (l : List Mk) : Nat := (l.filter fun r => !r.gd).length
theorem badM_le (l : List Mk) : badM l ≤ l.length := List.length_filter_le _ _
theorem badM_take {l : List Mk} {k : Nat} {r : Mk} (hr : l[k]? = some r) : badM (l.take (k + 1)) = badM (l.take k) + (if r.gd = true then 0 else 1) := by
  obtain ⟨hk, rfl⟩ := List.getElem?_eq_some_iff.1 hr
  rw [List.take_succ_eq_append_getElem hk, badM, badM, List.filter_append, List.length_append]
  cases h : l[k].gd <;> simp [List.filter, h]
end Go.Proofs.YtkchefbhpbpanaaGreatDoor
/-
  The model's BreakerFault.
-/
namespace Go.Proofs.YtkchefbhpbpanaaGreatDoor
open Go.ChangeShapes Go.WideShapes Go.ChangeAt Go.RowKit Go.Sort
end Go.Proofs.YtkchefbhpbpanaaGreatDoor
/-
  The program's small functions over outcomes: which of them are meant, whether they rise.
-/
namespace Go.Proofs.YtkchefbhpbpanaaGreatDoor
open Go.ChangeShapes Go.WideShapes Go.ChangeAt Go.RowKit Go.Sort
/-- A function value tells of outcomes whether they are meant, whatever world follows w. -/
structure PredM (w : World) (g : Nat) (lb : Array Value) (p : Mk → Bool) : Prop where
  eg : ∀ args X, (callFunc g args).run Tryz.prog X = .ok (.enter g args) X
  call : ∀ X, Below w.heap.size w X → ∀ r : Mk, Calls Tryz.prog g (#[.agg #[.int .i64 r.tm, .bool r.gd]] ++ lb) X fun e X' => e = .returned (.bool (p r)) ∧ Below X.heap.size X X'
theorem PredM.later {w w' : World} {g : Nat} {lb : Array Value} {p : Mk → Bool} (h : PredM w g lb p) (hb : Below w.heap.size w w') : PredM w' g lb p := ⟨h.eg, fun X hX => h.call X (hb.trans (hX.mono hb.size))⟩
def IdxM (p : Mk → Bool) (l : List Mk) (e : Ending) : Prop := (∃ k : Nat, e = .returned (.int .i64 (k : Int)) ∧ k ≤ 1048576 ∧ l.any p = true) ∨ (e = .returned (.int .i64 (-1)) ∧ l.any p = false)
theorem anyM_of {p : Mk → Bool} {l : List Mk} {k : Nat} {r : Mk} (hr : l[k]? = some r) (h : p r = true) : l.any p = true := List.any_eq_true.2 ⟨r, List.mem_of_getElem? hr, h⟩
theorem anyM_no {p : Mk → Bool} {l : List Mk} (h : ∀ (j : Nat) x, l[j]? = some x → p x = false) : l.any p = false := by
  rw [List.any_eq_false]
  intro x hx
  obtain ⟨i, hi⟩ := List.getElem?_of_mem hx
  rw [h i x hi]; decide
def cmpI (x y : Int) : Int := if x < y then -1 else if y < x then 1 else 0
end Go.Proofs.YtkchefbhpbpanaaGreatDoor
/-
  The program's BreakerFault.
-/
namespace Go.Proofs.YtkchefbhpbpanaaGreatDoor
open Go.ChangeShapes Go.WideShapes Go.ChangeAt Go.RowKit Go.Sort
theorem anyNotM (l : List Mk) : (l.any fun r => !timeB r.tm) = !timesM l := by
  unfold timesM
  rw [List.not_all_eq_any_not]
end Go.Proofs.YtkchefbhpbpanaaGreatDoor
/-
  Bad outcomes, counted; BadIn, on both sides.
-/
namespace Go.Proofs.YtkchefbhpbpanaaGreatDoor
open Go.ChangeShapes Go.WideShapes Go.ChangeAt Go.RowKit Go.Sort
def badA (s t o : Int) (l : List Mk) : Int := if brkC s t o l = 0 then (badM l : Int) else 0
end Go.Proofs.YtkchefbhpbpanaaGreatDoor
/-
  What is asked ahead by all that turn a breaker, on both sides.
-/
namespace Go.Proofs.YtkchefbhpbpanaaGreatDoor
open Go.ChangeShapes Go.WideShapes Go.ChangeAt Go.RowKit Go.Sort
def laterM (now : Int) (l : List Mk) : Bool := l.any fun r => decide (now < r.tm)
def askK (t : Int) (l : List Mk) (now : Int) : Bool := timeB now && decide (t ≤ now) && !laterM now l
def turnC (s t o : Int) (l : List Mk) (a0 a1 a2 a3 a4 now : Int) : Int := if brkC s t o l = 0 then (if rulesC a0 a1 a2 a3 a4 = 0 then (if askK t l now = true then 0 else 3) else rulesC a0 a1 a2 a3 a4) else brkC s t o l
theorem sortedM_le {l : List Mk} (h : sortedM l = true) : ∀ (d i : Nat) x y, l[i]? = some x → l[i + d]? = some y → x.tm ≤ y.tm
  | 0, i, x, y, hx, hy => by rw [Nat.add_zero, hx] at hy; obtain rfl := Option.some.inj hy; exact Int.le_refl _
  | d + 1, i, x, y, hx, hy => by
    have hlt := (List.getElem?_eq_some_iff.1 hy).1
    obtain ⟨z, hz⟩ : ∃ z, l[i + d]? = some z := ⟨_, List.getElem?_eq_getElem (by omega)⟩
    have h1 := sortedM_le h d i x z hx hz
    have h2 := (sortedM_iff l).1 h (i + d) z y hz (by rw [Nat.add_assoc]; exact hy)
    omega
theorem laterM_last {l : List Mk} {r : Mk} {k : Nat} {now : Int} (h : sortedM l = true) (hk : l.length = k + 1) (hr : l[k]? = some r) : laterM now l = decide (now < r.tm) := by
  unfold laterM
  by_cases c : now < r.tm
  · rw [show decide (now < r.tm) = true by simpa using c]
    exact anyM_of hr (by simpa using c)
  · rw [show decide (now < r.tm) = false by simpa using c]
    refine anyM_no fun j x hx => ?_
    have hlt := (List.getElem?_eq_some_iff.1 hx).1
    obtain ⟨d, hd⟩ : ∃ d, k = j + d := ⟨k - j, by omega⟩
    have := sortedM_le h d j x r hx (by rw [← hd]; exact hr)
    simp; omega
theorem laterM_nil (now : Int) : laterM now [] = false := rfl
theorem hidBk11 {p : Prop} (h : p) : Hid p := h
theorem cell_keep10 {w w' : World} {b o : Nat} {v : Value} (h : w.cell? ⟨b, o, none⟩ = some v) (hb : Below w.heap.size w w') : w'.cell? ⟨b, o, none⟩ = some v := by rw [hb.cell (block_lt_of_cell h)]; exact h
end Go.Proofs.YtkchefbhpbpanaaGreatDoor
/-
  A world in which one block alone has changed, and new ones have come.
-/
namespace Go.Proofs.YtkchefbhpbpanaaGreatDoor
open Go.ChangeShapes Go.WideShapes Go.ChangeAt Go.RowKit Go.Sort
theorem gbRefl (g : Option Nat) (w : World) : w.grownBy w g := ⟨rfl, rfl, rfl, Nat.le_refl _, fun _ _ _ => rfl⟩
theorem gbTrans {w w1 w2 : World} {g : Option Nat} (h : w.grownBy w1 g) (k : w1.grownBy w2 g) : w.grownBy w2 g :=
  ⟨k.os.trans h.os, k.tape.trans h.tape, k.output.trans h.output, Nat.le_trans h.size k.size, fun i hi hn => (k.block i (Nat.lt_of_lt_of_le hi h.size) hn).trans (h.block i hi hn)⟩
theorem gbBelow {w w' : World} (g : Option Nat) (h : Below w.heap.size w w') : w.grownBy w' g := ⟨h.os, h.tape, h.output, h.size, fun k hk _ => h.block k hk⟩
theorem gbSet (w : World) (g o : Nat) (u : Value) : w.grownBy (w.setCell ⟨g, o, none⟩ u) (some g) := ⟨rfl, rfl, rfl, by simp [World.setCell], fun k _ hn => Below.heap_setCell _ _ _ _ (fun e => hn (by rw [e]))⟩
theorem gbOne {g : Nat} {w w' : World} (h : OneB g w w') : w.grownBy w' (some g) := ⟨h.os, h.tape, h.output, Nat.le_of_eq h.size.symm, fun k _ hn => h.block k (fun e => hn (by rw [e]))⟩
theorem gbTo {w w' : World} {g B : Nat} (h : w.grownBy w' (some g)) (hB : B ≤ g) (hs : B ≤ w.heap.size) : Below B w w' := ⟨h.os, h.tape, h.output, h.size, fun k hk => h.block k (by omega) (by simp; omega)⟩
theorem gbCell {w w' : World} {g : Nat} (h : w.grownBy w' (some g)) {b : Nat} (o : Nat) (hb : b < w.heap.size) (hn : b ≠ g) : w'.cell? ⟨b, o, none⟩ = w.cell? ⟨b, o, none⟩ := World.cell?_of_block (w := w) (h.block b hb (by simp; exact hn))
theorem gbFrozen {w w' : World} {g : Nat} (h : w.grownBy w' (some g)) {b : Nat} (o : Nat) (hb : b < w.heap.size) (hn : b ≠ g) : w'.frozen? ⟨b, o, none⟩ = w.frozen? ⟨b, o, none⟩ := World.frozen?_of_block (w := w) (h.block b hb (by simp; exact hn))
theorem S4.gb {g : Nat} {w w' : World} {b : Nat} {v0 v1 v2 v3 : Value} (k : S4 w b v0 v1 v2 v3) (h : w.grownBy w' (some g)) (hb : b ≠ g) : S4 w' b v0 v1 v2 v3 :=
  ⟨by rw [gbCell h _ k.lt hb]; exact k.c0, by rw [gbCell h _ k.lt hb]; exact k.c1, by rw [gbCell h _ k.lt hb]; exact k.c2, by rw [gbCell h _ k.lt hb]; exact k.c3, fun o => by rw [gbFrozen h _ k.lt hb]; exact k.fr o, Nat.lt_of_lt_of_le k.lt h.size⟩
theorem S5.gb {g : Nat} {w w' : World} {b : Nat} {v0 v1 v2 v3 v4 : Value} (k : S5 w b v0 v1 v2 v3 v4) (h : w.grownBy w' (some g)) (hb : b ≠ g) : S5 w' b v0 v1 v2 v3 v4 :=
  ⟨by rw [gbCell h _ k.lt hb]; exact k.c0, by rw [gbCell h _ k.lt hb]; exact k.c1, by rw [gbCell h _ k.lt hb]; exact k.c2, by rw [gbCell h _ k.lt hb]; exact k.c3, by rw [gbCell h _ k.lt hb]; exact k.c4, fun o => by rw [gbFrozen h _ k.lt hb]; exact k.fr o, Nat.lt_of_lt_of_le k.lt h.size⟩
theorem MkNew.gb {g : Nat} {w w' : World} {base : Nat} {v : Value} {l : List Mk} (h : MkNew w base v l) (k : w.grownBy w' (some g)) (hne : ∀ G, v.ownBlock = some G → G ≠ g) : MkNew w' base v l := by
  rcases h with h | ⟨G, off, cap, rfl, h1, h2, h3, h4⟩
  · exact .inl h
  · have hn := hne G rfl
    refine .inr ⟨G, off, cap, rfl, h1, Nat.lt_of_lt_of_le h2 k.size, fun i r hr => ?_, fun o => by rw [gbFrozen k _ h2 hn]; exact h4 o⟩
    obtain ⟨p0, p1⟩ := h3 i r hr
    exact ⟨by rw [gbCell k _ h2 hn]; exact p0, by rw [gbCell k _ h2 hn]; exact p1⟩
theorem MkNew.gb2 {g : Nat} {w w' : World} {base : Nat} {v : Value} {l : List Mk} (h : MkNew w base v l) (k : w.grownBy w' (some g)) (hne : g < base) : MkNew w' base v l := by
  rcases h with h | ⟨G, off, cap, rfl, h1, h2, h3, h4⟩
  · exact .inl h
  · exact MkNew.gb (.inr ⟨G, off, cap, rfl, h1, h2, h3, h4⟩) k (fun G' hG => by simp only [Value.ownBlock, Option.some.injEq] at hG; omega)
theorem hid12 {p : Prop} (h : p) : Hid p := h
theorem MkIn.gb {g : Nat} {w w' : World} {a : Option Addr} {l : List Mk} (h : MkIn w a l) (k : w.grownBy w' (some g)) (hne : ∀ A, a = some A → A.block ≠ g) : MkIn w' a l := by
  rcases h with h | ⟨b, off, rfl, h3⟩
  · exact .inl h
  · have hn := hne _ rfl
    refine .inr ⟨b, off, rfl, fun i r hr => ?_⟩
    obtain ⟨p0, p1⟩ := h3 i r hr
    have h2 := block_lt_of_cell p0
    exact ⟨by rw [gbCell k _ h2 hn]; exact p0, by rw [gbCell k _ h2 hn]; exact p1⟩
end Go.Proofs.YtkchefbhpbpanaaGreatDoor
/-
  Two rows of waiters of one's own that grow.
-/
namespace Go.Proofs.YtkchefbhpbpanaaGreatDoor
open Go.ChangeShapes Go.WideShapes Go.ChangeAt Go.RowKit Go.Sort
def goneR (now : Int) (l : List Wr) : List Wr := l.filter fun r => decide (r.du ≤ now)
def leftR (now : Int) (l : List Wr) : List Wr := l.filter fun r => !decide (r.du ≤ now)
theorem goneR_take {now : Int} {l : List Wr} {k : Nat} {r : Wr} (hr : l[k]? = some r) : goneR now (l.take (k + 1)) = goneR now (l.take k) ++ (if r.du ≤ now then [r] else []) := by
  obtain ⟨hk, e⟩ := List.getElem?_eq_some_iff.1 hr
  rw [List.take_succ_eq_append_getElem hk, e, goneR, List.filter_append]
  by_cases h : r.du ≤ now <;> simp [goneR, h]
theorem leftR_take {now : Int} {l : List Wr} {k : Nat} {r : Wr} (hr : l[k]? = some r) : leftR now (l.take (k + 1)) = leftR now (l.take k) ++ (if r.du ≤ now then [] else [r]) := by
  obtain ⟨hk, e⟩ := List.getElem?_eq_some_iff.1 hr
  rw [List.take_succ_eq_append_getElem hk, e, leftR, List.filter_append]
  by_cases h : r.du ≤ now <;> simp [leftR, h]
theorem goneR_len (now : Int) (l : List Wr) : (goneR now l).length ≤ l.length := List.length_filter_le _ _
theorem leftR_len (now : Int) (l : List Wr) : (leftR now l).length ≤ l.length := List.length_filter_le _ _
theorem wpList_appendGWr {ops : Array Oper} {rest : List Oper} {o : Oper} {a : Act} {Q : Exit → Act → World → Prop} (w : World) (hgd : o.guard = none) (s x : Operand)
    (ho : o.op = .call { callee := .builtin .append, args := #[s, x], argTypes := #[34, 34] }) (base : Nat) (v : Value) (l : List Wr) (r : Wr)
    (hs : a.eval s = v) (hx : a.eval x = .slice (some ⟨w.heap.size, 0, none⟩) 1 1) (hown : OwnWr w base v l) (hl : l.length ≤ 2000000) (hbase : base ≤ w.heap.size)
    (h : ∀ g cap w', OwnWr w' base (.slice (some ⟨g, 0, none⟩) (l.length + 1) cap) (l ++ [r]) → w.grownBy w' v.ownBlock → (v.ownBlock = some g ∨ w.heap.size ≤ g) → wpList Tryz.prog ops Q rest (a.put o.dst (.slice (some ⟨g, 0, none⟩) (l.length + 1) cap)) w') :
    wpList Tryz.prog ops Q (o :: rest) a (w.alloc (.cells #[.int .i64 r.rq, .bool r.hd, .int .i64 r.du, .bool r.lt] 41)) := by
  obtain ⟨i0, hi, hz0, hz1, hz2⟩ := info_parts infoWr
  refine wpList_append_lies _ hgd s x 34 ho base 41 i0 (.agg #[.int .i64 0, .bool false, .int .i64 0, .bool false]) 4 32 Tryz.underlying34 hi hz0 hz1 hz2 rfl (by decide) v l.length (wWr l) hs (World.ownsRow.alloc hown _) ⟨w.heap.size, 0, none⟩ 1 1 (cellWr r) hx rfl ?_ ?_ (by decide) ?_ ?_ ?_ _ rfl ?_
  · intro j u hj
    match j, hj with
    | 0, hj => simp [cellWr] at hj; subst hj; simp [Addr.add]
    | 1, hj => simp [cellWr] at hj; subst hj; simp [Addr.add]
    | 2, hj => simp [cellWr] at hj; subst hj; simp [Addr.add]
    | 3, hj => simp [cellWr] at hj; subst hj; simp [Addr.add]
  · intro u hu; simp [cellWr] at hu; rcases hu with rfl | rfl | rfl | rfl <;> rfl
  · unfold maxLen; omega
  · omega
  · simp; omega
  · intro g cap w' h1 h2 h3 _
    refine h g cap w' ?_ ?_ ?_
    · unfold OwnWr
      rw [List.length_append, show wWr (l ++ [r]) = wWr l ++ cellWr r by simp [wWr]]
      exact h1
    · have hb := (Below.refl w.heap.size w).alloc (Nat.le_refl _) (.cells #[.int .i64 r.rq, .bool r.hd, .int .i64 r.du, .bool r.lt] 41)
      exact ⟨h2.os.trans hb.os, h2.tape.trans hb.tape, h2.output.trans hb.output, Nat.le_trans hb.size h2.size, fun q hq hn => (h2.block q (Nat.lt_of_lt_of_le hq hb.size) hn).trans (hb.block q hq)⟩
    · rcases h3 with h3 | h3
      · exact .inl h3
      · right; rw [h3]; simp
/-- Two rows of one's own that grow, and boxes ahead of them. -/
structure XW (w0 w : World) (base : Nat) (vl vi : Value) (L G : List Wr) : Prop where
  ol : OwnWr w base vl L
  oi : OwnWr w base vi G
  ap : ∀ q, vl.ownBlock = some q → vi.ownBlock ≠ some q
  lo : Below base w0 w
theorem XW.al {w0 w : World} {base : Nat} {vl vi : Value} {L G : List Wr} (h : XW w0 w base vl vi L G) (hb : base ≤ w.heap.size) (o : Obj) : XW w0 (w.alloc o) base vl vi L G :=
  ⟨World.ownsRow.alloc h.ol _, World.ownsRow.alloc h.oi _, h.ap, h.lo.alloc hb _⟩
theorem XW.tellL {w0 w w' : World} {base g cap n : Nat} {vl vi : Value} {L G : List Wr} {r : Wr} (h : XW w0 w base vl vi L G) (hb : base ≤ w.heap.size) (h1 : OwnWr w' base (.slice (some ⟨g, 0, none⟩) n cap) (L ++ [r])) (h2 : w.grownBy w' vl.ownBlock) (h3 : vl.ownBlock = some g ∨ w.heap.size ≤ g) : XW w0 w' base (.slice (some ⟨g, 0, none⟩) n cap) vi (L ++ [r]) G := by
  refine ⟨h1, ?_, ?_, h.lo.trans ⟨h2.os, h2.tape, h2.output, h2.size, fun k hk => h2.block k (by omega) (fun e => by have := row_ge h.ol k e.symm; omega)⟩⟩
  · refine World.ownsRow.kept h.oi h2 ?_
    cases e : vi.ownBlock with
    | none => exact .inl rfl
    | some q => right; intro e2; exact h.ap q e2.symm e
  · intro q hq e
    simp only [Value.ownBlock, Option.some.injEq] at hq
    subst hq
    rcases h3 with h3 | h3
    · exact h.ap _ h3 e
    · have := (World.ownsRow.lt h.oi _ e).2; omega
theorem XW.tellG {w0 w w' : World} {base g cap n : Nat} {vl vi : Value} {L G : List Wr} {r : Wr} (h : XW w0 w base vl vi L G) (hb : base ≤ w.heap.size) (h1 : OwnWr w' base (.slice (some ⟨g, 0, none⟩) n cap) (G ++ [r])) (h2 : w.grownBy w' vi.ownBlock) (h3 : vi.ownBlock = some g ∨ w.heap.size ≤ g) : XW w0 w' base vl (.slice (some ⟨g, 0, none⟩) n cap) L (G ++ [r]) := by
  refine ⟨?_, h1, ?_, h.lo.trans ⟨h2.os, h2.tape, h2.output, h2.size, fun k hk => h2.block k (by omega) (fun e => by have := row_ge h.oi k e.symm; omega)⟩⟩
  · refine World.ownsRow.kept h.ol h2 ?_
    cases e : vl.ownBlock with
    | none => exact .inl rfl
    | some q => right; intro e2; exact h.ap q e e2.symm
  · intro q hq e
    simp only [Value.ownBlock, Option.some.injEq] at e
    subst e
    rcases h3 with h3 | h3
    · exact h.ap _ hq h3
    · have := (World.ownsRow.lt h.ol _ hq).2; omega
end Go.Proofs.YtkchefbhpbpanaaGreatDoor
/-
  What the laws over lists of items share.
-/
namespace Go.Proofs.YtkchefbhpbpanaaGreatDoor
open Go.ChangeShapes Go.WideShapes Go.ChangeAt Go.RowKit
/-- The slice at a holds the items l. -/
def HdsIn (w : World) (a : Option Addr) (l : List Hdr) : Prop := l = [] ∨ ∃ b off, a = some ⟨b, off, none⟩ ∧ HeadsAt w b off l
theorem HdsIn.keep {w w' : World} {a : Option Addr} {l : List Hdr} (h : HdsIn w a l) (hb : Below w.heap.size w w') : HdsIn w' a l := by
  rcases h with h | ⟨b, off, e, hat⟩
  · exact .inl h
  · exact .inr ⟨b, off, e, hat.keep hb⟩
theorem szH_room {left : Int} {r : Hdr} (h : ¬ szH left r < 0) : (r.name.size : Int) ≤ left ∧ (r.value.size : Int) ≤ left ∧ szH left r ≤ left := by
  by_cases c1 : left - (r.name.size : Int) < 0
  · rw [show szH left r = -1 from by simp [szH, c1]] at h; omega
  · by_cases c2 : left - (r.name.size : Int) - (r.value.size : Int) < 0
    · rw [show szH left r = -1 from by simp [szH, c1, c2]] at h; omega
    · have e : szH left r = left - (r.name.size : Int) - (r.value.size : Int) := by simp [szH, c1, c2]
      rw [e]
      omega
theorem szHs_room (l : List Hdr) : ∀ left : Int, ¬ szHs left l < 0 → left ≤ 1048576 → ∀ (i : Nat) r, l[i]? = some r → r.name.size ≤ 1048576 ∧ r.value.size ≤ 1048576 := by
  induction l with
  | nil => intro left _ _ i r hr; simp at hr
  | cons x l ih =>
    intro left h hl i r hr
    rw [szHs] at h
    by_cases c : szH left x < 0
    · rw [if_pos c] at h; omega
    · rw [if_neg c] at h
      obtain ⟨z1, z2, z3⟩ := szH_room c
      cases i with
      | zero => simp at hr; subst hr; omega
      | succ i => exact ih _ h (by omega) i r (by simpa using hr)
theorem szHL_room {l : List Hdr} {left : Int} (hl : left ≤ 1048576) (h : ¬ szHL left l < 0) : (l.length : Int) ≤ 1048576 ∧ ∀ (i : Nat) r, l[i]? = some r → r.name.size ≤ 1048576 ∧ r.value.size ≤ 1048576 := by
  unfold szHL at h
  by_cases c : left - (l.length : Int) < 0
  · rw [if_pos c] at h; omega
  · rw [if_neg c] at h
    exact ⟨by omega, szHs_room l _ h (by omega)⟩
theorem szHs_le (l : List Hdr) : ∀ left : Int, szHs left l ≤ left ∨ szHs left l < 0 := by
  induction l with
  | nil => intro left; exact .inl (Int.le_refl _)
  | cons x l ih =>
    intro left
    rw [szHs]
    by_cases c : szH left x < 0
    · rw [if_pos c]; right; decide
    · rw [if_neg c]
      have := (szH_room c).2.2
      rcases ih (szH left x) with h | h
      · left; omega
      · right; exact h
theorem szHL_le {l : List Hdr} {left : Int} (h : ¬ szHL left l < 0) : szHL left l ≤ left := by
  unfold szHL at h ⊢
  by_cases c : left - (l.length : Int) < 0
  · rw [if_pos c] at h; omega
  · rw [if_neg c] at h ⊢
    rcases szHs_le l (left - (l.length : Int)) with x | x <;> omega
end Go.Proofs.YtkchefbhpbpanaaGreatDoor
/-
  Contracts of Go library functions at this program: the tables by which the library of proofs knows its functions here (made by the kit tool lay-plain).
-/
namespace Go.Proofs
open Go.Shelf
def Tryz.lays156_ren : Go.Shelf.Ren := ⟨fun | 156 => 154 | 165 => 163 | 166 => 164 | 169 => 165 | 240 => 174 | 241 => 175 | 276 => 180 | 277 => 181 | n => n, fun | 31 => 169 | 9 => 9 | 3 => 3 | 4 => 4 | 0 => 0 | 20 => 20 | 72 => 208 | 76 => 210 | 70 => 206 | 37 => 54 | 75 => 162 | 127 => 178 | 164 => 223 | 5 => 5 | 80 => 212 | n => n, fun | n => n⟩
theorem Tryz.lays156 : Go.Proofs.Lays.n156 Tryz.prog Tryz.lays156_ren := {
  mixed := by kernel_rfl
  f156 := Tryz.func154.trans (congrArg some (by kernel_rfl))
  f165 := Tryz.func163.trans (congrArg some (by kernel_rfl))
  f166 := Tryz.func164.trans (congrArg some (by kernel_rfl))
  f169 := Tryz.func165.trans (congrArg some (by kernel_rfl))
  f240 := Tryz.func174.trans (congrArg some (by kernel_rfl))
  f241 := Tryz.func175.trans (congrArg some (by kernel_rfl))
  f276 := Tryz.func180.trans (congrArg some (by kernel_rfl))
  f277 := Tryz.func181.trans (congrArg some (by kernel_rfl))
  t0 := Tryz.underlying0
  a0 := Tryz.isAgg0
  z0 := Tryz.sizeOf0
  v0 := Tryz.zeroValue0
  t3 := Tryz.underlying3
  a3 := Tryz.isAgg3
  z3 := Tryz.sizeOf3
  v3 := Tryz.zeroValue3
  t4 := Tryz.underlying4
  a4 := Tryz.isAgg4
  z4 := Tryz.sizeOf4
  v4 := Tryz.zeroValue4
  t9 := Tryz.underlying9
  a9 := Tryz.isAgg9
  z9 := Tryz.sizeOf9
  v9 := Tryz.zeroValue9
  t20 := Tryz.underlying20
  a20 := Tryz.isAgg20
  z20 := Tryz.sizeOf20
  v20 := Tryz.zeroValue20
  t31 := Tryz.underlying169
  a31 := Tryz.isAgg169
  z31 := Tryz.sizeOf169
  v31 := Tryz.zeroValue169
  t37 := Tryz.underlying54
  a37 := Tryz.isAgg54
  z37 := Tryz.sizeOf54
  v37 := Tryz.zeroValue54
  t70 := Tryz.underlying206
  a70 := Tryz.isAgg206
  z70 := Tryz.sizeOf206
  v70 := Tryz.zeroValue206
  t72 := Tryz.underlying208
  a72 := Tryz.isAgg208
  z72 := Tryz.sizeOf208
  v72 := Tryz.zeroValue208
  t75 := Tryz.underlying162
  a75 := Tryz.isAgg162
  z75 := Tryz.sizeOf162
  v75 := Tryz.zeroValue162
  t76 := Tryz.underlying210
  a76 := Tryz.isAgg210
  z76 := Tryz.sizeOf210
  v76 := Tryz.zeroValue210
  t127 := Tryz.underlying178
  a127 := Tryz.isAgg178
  z127 := Tryz.sizeOf178
  v127 := Tryz.zeroValue178
  t164 := Tryz.underlying223
  a164 := Tryz.isAgg223
  z164 := Tryz.sizeOf223
  v164 := Tryz.zeroValue223 }
def Tryz.lays160_ren : Go.Shelf.Ren := ⟨fun | 160 => 161 | 232 => 168 | 231 => 167 | 227 => 169 | 234 => 171 | 233 => 170 | 236 => 173 | 235 => 172 | 228 => 176 | 271 => 179 | 151 => 178 | 197 => 177 | 120 => 184 | 152 => 183 | 260 => 182 | 137 => 185 | 119 => 186 | 224 => 187 | 225 => 188 | 217 => 189 | 266 => 190 | n => n, fun | 9 => 9 | 4 => 4 | 3 => 3 | 5 => 5 | 117 => 216 | 116 => 215 | 0 => 0 | 124 => 219 | 21 => 21 | 105 => 220 | 46 => 228 | 119 => 227 | 139 => 231 | 138 => 230 | n => n, fun | 3 => 6 | 4 => 7 | n => n⟩
theorem Tryz.lays160 : Go.Proofs.Lays.n160 Tryz.prog Tryz.lays160_ren := {
  mixed := by kernel_rfl
  f119 := Tryz.func186.trans (congrArg some (by kernel_rfl))
  f120 := Tryz.func184.trans (congrArg some (by kernel_rfl))
  f137 := Tryz.func185.trans (congrArg some (by kernel_rfl))
  f151 := Tryz.func178.trans (congrArg some (by kernel_rfl))
  f152 := Tryz.func183.trans (congrArg some (by kernel_rfl))
  f160 := Tryz.func161.trans (congrArg some (by kernel_rfl))
  f197 := Tryz.func177.trans (congrArg some (by kernel_rfl))
  f217 := Tryz.func189.trans (congrArg some (by kernel_rfl))
  f224 := Tryz.func187.trans (congrArg some (by kernel_rfl))
  f225 := Tryz.func188.trans (congrArg some (by kernel_rfl))
  f227 := Tryz.func169.trans (congrArg some (by kernel_rfl))
  f228 := Tryz.func176.trans (congrArg some (by kernel_rfl))
  f231 := Tryz.func167.trans (congrArg some (by kernel_rfl))
  f232 := Tryz.func168.trans (congrArg some (by kernel_rfl))
  f233 := Tryz.func170.trans (congrArg some (by kernel_rfl))
  f234 := Tryz.func171.trans (congrArg some (by kernel_rfl))
  f235 := Tryz.func172.trans (congrArg some (by kernel_rfl))
  f236 := Tryz.func173.trans (congrArg some (by kernel_rfl))
  f260 := Tryz.func182.trans (congrArg some (by kernel_rfl))
  f266 := Tryz.func190.trans (congrArg some (by kernel_rfl))
  f271 := Tryz.func179.trans (congrArg some (by kernel_rfl))
  t0 := Tryz.underlying0
  a0 := Tryz.isAgg0
  z0 := Tryz.sizeOf0
  v0 := Tryz.zeroValue0
  t3 := Tryz.underlying3
  a3 := Tryz.isAgg3
  z3 := Tryz.sizeOf3
  v3 := Tryz.zeroValue3
  t4 := Tryz.underlying4
  a4 := Tryz.isAgg4
  z4 := Tryz.sizeOf4
  v4 := Tryz.zeroValue4
  t5 := Tryz.underlying5
  a5 := Tryz.isAgg5
  z5 := Tryz.sizeOf5
  v5 := Tryz.zeroValue5
  t9 := Tryz.underlying9
  a9 := Tryz.isAgg9
  z9 := Tryz.sizeOf9
  v9 := Tryz.zeroValue9
  t21 := Tryz.underlying21
  a21 := Tryz.isAgg21
  z21 := Tryz.sizeOf21
  v21 := Tryz.zeroValue21
  t46 := Tryz.underlying228
  a46 := Tryz.isAgg228
  z46 := Tryz.sizeOf228
  v46 := Tryz.zeroValue228
  t105 := Tryz.underlying220
  a105 := Tryz.isAgg220
  z105 := Tryz.sizeOf220
  v105 := Tryz.zeroValue220
  t116 := Tryz.underlying215
  a116 := Tryz.isAgg215
  z116 := Tryz.sizeOf215
  t117 := Tryz.underlying216
  a117 := Tryz.isAgg216
  z117 := Tryz.sizeOf216
  v117 := Tryz.zeroValue216
  t119 := Tryz.underlying227
  a119 := Tryz.isAgg227
  z119 := Tryz.sizeOf227
  t124 := Tryz.underlying219
  a124 := Tryz.isAgg219
  z124 := Tryz.sizeOf219
  v124 := Tryz.zeroValue219
  t138 := Tryz.underlying230
  a138 := Tryz.isAgg230
  z138 := Tryz.sizeOf230
  v138 := Tryz.zeroValue230
  t139 := Tryz.underlying231
  a139 := Tryz.isAgg231
  z139 := Tryz.sizeOf231
  v139 := Tryz.zeroValue231
  g3 := by kernel_rfl
  g4 := by kernel_rfl }
def Tryz.laysM316_ren : Go.Shelf.Ren := ⟨fun | 316 => 126 | n => n, fun | 9 => 9 | 3 => 3 | 4 => 4 | 37 => 54 | 0 => 0 | 127 => 178 | 5 => 5 | n => n, fun | n => n⟩
theorem Tryz.laysM316 : Go.Proofs.LaysM.n316 Tryz.prog Tryz.laysM316_ren := {
  mixed := by kernel_rfl
  f316 := Tryz.func126.trans (congrArg some (by kernel_rfl))
  t0 := Tryz.underlying0
  a0 := Tryz.isAgg0
  z0 := Tryz.sizeOf0
  v0 := Tryz.zeroValue0
  t3 := Tryz.underlying3
  a3 := Tryz.isAgg3
  z3 := Tryz.sizeOf3
  v3 := Tryz.zeroValue3
  t4 := Tryz.underlying4
  a4 := Tryz.isAgg4
  z4 := Tryz.sizeOf4
  v4 := Tryz.zeroValue4
  t9 := Tryz.underlying9
  a9 := Tryz.isAgg9
  z9 := Tryz.sizeOf9
  v9 := Tryz.zeroValue9
  t37 := Tryz.underlying54
  a37 := Tryz.isAgg54
  z37 := Tryz.sizeOf54
  v37 := Tryz.zeroValue54
  t127 := Tryz.underlying178
  a127 := Tryz.isAgg178
  z127 := Tryz.sizeOf178
  v127 := Tryz.zeroValue178
  t5 := Tryz.underlying5
  a5 := Tryz.isAgg5
  z5 := Tryz.sizeOf5
  v5 := Tryz.zeroValue5
  i0 := by kernel_rfl
  i3 := by kernel_rfl
  i4 := by kernel_rfl
  i5 := by kernel_rfl
  i9 := by kernel_rfl
  i37 := by kernel_rfl
  i127 := by kernel_rfl }
def Tryz.lays99_ren : Go.Shelf.Ren := ⟨fun | 99 => 147 | 206 => 158 | n => n, fun | 9 => 9 | 4 => 4 | 3 => 3 | n => n, fun | n => n⟩
theorem Tryz.lays99 : Go.Proofs.Lays.n99 Tryz.prog Tryz.lays99_ren := {
  mixed := by kernel_rfl
  f99 := Tryz.func147.trans (congrArg some (by kernel_rfl))
  f206 := Tryz.func158.trans (congrArg some (by kernel_rfl))
  t3 := Tryz.underlying3
  a3 := Tryz.isAgg3
  z3 := Tryz.sizeOf3
  v3 := Tryz.zeroValue3
  t4 := Tryz.underlying4
  a4 := Tryz.isAgg4
  z4 := Tryz.sizeOf4
  v4 := Tryz.zeroValue4
  t9 := Tryz.underlying9
  a9 := Tryz.isAgg9
  z9 := Tryz.sizeOf9
  v9 := Tryz.zeroValue9 }
end Go.Proofs
/-
  A slice of texts that the call itself grows; joined and copied.
-/
namespace Go.Proofs.YtkchefbhpbpanaaGreatDoor
open Go.ChangeShapes Go.WideShapes Go.ChangeAt Go.RowKit
theorem infoStr : (Tryz.prog.info? 9).map (fun i => (i.zero, i.size, i.bytes)) = some (some (.string ⟨#[]⟩), 1, 16) := by kernel_rfl
def textsW (l : List ByteArray) : List Value := l.map Value.string
/-- v, nil or not, holds the texts l in a row of the call's own. -/
def OwnS (w : World) (base : Nat) (v : Value) (l : List ByteArray) : Prop := w.ownsRow base 9 1 v l.length (textsW l)
theorem OwnS.nil (w : World) (base : Nat) : OwnS w base (.slice none 0 0) [] := World.ownsRow_nil _ _ _ _
theorem OwnS.below {w w' : World} {base : Nat} {v : Value} {l : List ByteArray} (h : OwnS w base v l) (hb : Below w.heap.size w w') : OwnS w' base v l := by
  obtain ⟨h1, h2⟩ := h
  refine ⟨h1, ?_⟩
  rcases h2 with h2 | ⟨g, c, cur, e, hg, hh, hrest⟩
  · exact .inl h2
  · exact .inr ⟨g, c, cur, e, hg, by rw [hb.block g (Array.getElem?_eq_some_iff.1 hh).1]; exact hh, hrest⟩
theorem OwnS.lower {w : World} {b0 base : Nat} {v : Value} {l : List ByteArray} (h : OwnS w base v l) (hb : b0 ≤ base) : OwnS w b0 v l := by
  obtain ⟨h1, h2⟩ := h
  refine ⟨h1, ?_⟩
  rcases h2 with h2 | ⟨g, c, cur, e, hg, hrest⟩
  · exact .inl h2
  · exact .inr ⟨g, c, cur, e, by omega, hrest⟩
theorem own_geS {w : World} {base : Nat} {e : TypeId} {size : Nat} {v : Value} {n : Nat} {xs : List Value} (h : w.ownsRow base e size v n xs) (q : Nat) (hq : v.ownBlock = some q) : base ≤ q := by
  obtain ⟨_, h | ⟨g, c, cur, rfl, hg, _⟩⟩ := h
  · rw [h.1] at hq; cases hq
  · simp only [Value.ownBlock, Option.some.injEq] at hq; omega
theorem wpList_append_str {ops : Array Oper} {rest : List Oper} {o : Oper} {a : Act} {Q : Exit → Act → World → Prop} (w : World) (hgd : o.guard = none) (s x : Operand)
    (ho : o.op = .call { callee := .builtin .append, args := #[s, x], argTypes := #[169, 169] }) (base : Nat) (v : Value) (l : List ByteArray) (z : ByteArray)
    (hs : a.eval s = v) (hx : a.eval x = .slice (some ⟨w.heap.size, 0, none⟩) 1 1) (hown : OwnS w base v l) (hl : l.length ≤ 1000000) (hbase : base ≤ w.heap.size)
    (h : ∀ v' w', OwnS w' base v' (l ++ [z]) → Below base w w' → w.heap.size ≤ w'.heap.size → wpList Tryz.prog ops Q rest (a.put o.dst v') w') :
    wpList Tryz.prog ops Q (o :: rest) a (w.alloc (.cells #[.string z] 9)) := by
  obtain ⟨i0, hi, hz0, hz1, hz2⟩ := info_parts infoStr
  refine wpList_append_own _ hgd s x 169 ho base 9 i0 (.string ⟨#[]⟩) 1 16 Tryz.underlying169 hi hz0 hz1 hz2 rfl (by decide) v l.length (textsW l) hs (World.ownsRow.alloc hown _) ⟨w.heap.size, 0, none⟩ 1 1 [.string z] hx rfl ?_ ?_ ?_ ?_ ?_ ?_
  · intro j u hj
    match j, hj with
    | 0, hj => simp at hj; subst hj; simp [Addr.add]
  · intro u hu; simp at hu; subst hu; rfl
  · unfold maxLen; omega
  · omega
  · simp; omega
  · intro v' w' h1 h2 h3
    have e : textsW (l ++ [z]) = textsW l ++ [Value.string z] := by simp [textsW]
    refine h v' w' (by unfold OwnS; rw [e, List.length_append]; exact h1) ?_ ?_
    · exact ((Below.refl base w).alloc hbase _).grown h2 (by simp; omega) (fun q hq => own_geS hown q hq)
    · have hb := ((Below.refl 0 w).alloc (Nat.zero_le _) (.cells #[.string z] 9)).grown h2 (Nat.zero_le _) (fun q _ => Nat.zero_le _)
      exact hb.size
theorem joinExtra : Builder.Extra Tryz.prog Tryz.lays156_ren where -- of 154
  sizeBuilder := by kernel_rfl
  liesBuilder := by kernel_rfl
  t5 := Tryz.underlying5
  a5 := Tryz.isAgg5
  z5 := Tryz.sizeOf5
  v5 := Tryz.zeroValue5
  infoByte := by kernel_rfl
  cellsByte := by kernel_rfl
  sizeByte := by kernel_rfl
  neB5 := by decide
/-- strings.Join over the call's own texts. -/
theorem join_own (w : World) (base : Nat) (v : Value) (xs : List ByteArray) (h : OwnS w base v xs) (hN : xs.length ≤ 1000000) (hlen : (Lib.join (xs.map (·.data.toList)) [44, 32]).length ≤ 1000000) :
    Calls Tryz.prog 154 #[v, .string ⟨#[44, 32]⟩] w fun e w' => e = .returned (.string ⟨(Lib.join (xs.map (·.data.toList)) [44, 32]).toArray⟩) ∧ Below w.heap.size w w' := by
  have h0 := h
  obtain ⟨_, h1 | ⟨g, c, cur, rfl, _, hh, hcap, _⟩⟩ := h
  · have : xs = [] := List.eq_nil_of_length_eq_zero h1.2
    subst this
    rw [h1.1]
    exact (Any.strings_Join_none Tryz.lays156 joinExtra none 0 ⟨#[44, 32]⟩ w).mono fun e w' ⟨he, hw⟩ => ⟨he, hw ▸ Below.refl _ _⟩
  · refine Any.strings_Join Tryz.lays156 joinExtra g 0 c xs ⟨#[44, 32]⟩ w ?_ (Array.getElem?_eq_some_iff.1 hh).1 (by omega) hcap (by simpa using (by omega : (Lib.join (xs.map (·.data.toList)) [44, 32]).length ≤ 140737488355328))
    intro j x hj
    have hj2 := (List.getElem?_eq_some_iff.1 hj).1
    have := World.ownsRow.cellAt h0 j (by omega)
    rw [show 0 + j = j from by omega]
    rw [this]
    simp [textsW, hj]
theorem clone_lib2 (s : ByteArray) (w : World) (hs : s.size ≤ 1048576) :
    Calls Tryz.prog 126 #[.string s] w fun e w' => e = .returned (.string s) ∧ Below w.heap.size w w' :=
  Any.stringslite_Clone Tryz.laysM316 s w (by omega)
set_option maxHeartbeats 400000 in
theorem clone_text (s : ByteArray) (w : World) (hs : s.size ≤ 1048576) :
    Calls Tryz.prog 110 #[.string s] w fun e w' => e = .returned (.string s) ∧ Below w.heap.size w w' := by
  go_enter Tryz.func110, Tryz.ntmps110
  go_wp2_with fail
  refine (clone_lib2 s _ hs).mono ?_
  rintro e w1 ⟨rfl, hb⟩
  go_wp2
  go_ret
  exact ⟨rfl, hb⟩
end Go.Proofs.YtkchefbhpbpanaaGreatDoor
/-
  Head lines that the call itself grows.
-/
namespace Go.Proofs.YtkchefbhpbpanaaGreatDoor
open Go.ChangeShapes Go.WideShapes Go.ChangeAt Go.RowKit
def hdrW (r : Hdr) : List Value := [.string r.name, .string r.value]
def hdrsW (l : List Hdr) : List Value := l.flatMap hdrW
theorem hdrsW_len (l : List Hdr) : (hdrsW l).length = l.length * 2 := by
  induction l with
  | nil => rfl
  | cons r l ih => simp only [hdrsW, List.flatMap_cons, List.length_append, List.length_cons] at ih ⊢; rw [ih]; simp [hdrW]; omega
theorem hdrsW_at (l : List Hdr) : ∀ (i : Nat) r, l[i]? = some r → (hdrsW l)[i * 2]? = some (.string r.name) ∧ (hdrsW l)[i * 2 + 1]? = some (.string r.value) := by
  induction l with
  | nil => intro i r hr; simp at hr
  | cons x l ih =>
    intro i r hr
    have e : hdrsW (x :: l) = .string x.name :: .string x.value :: hdrsW l := by simp [hdrsW, hdrW]
    rw [e]
    cases i with
    | zero => simp at hr; subst hr; simp
    | succ i =>
      have := ih i r (by simpa using hr)
      rw [show (i + 1) * 2 = i * 2 + 1 + 1 from by omega]
      simpa using this
/-- v, nil or not, holds the items l in a row of the call's own, from block base on. -/
def OwnH (w : World) (base : Nat) (v : Value) (l : List Hdr) : Prop := w.ownsRow base 153 2 v l.length (hdrsW l)
theorem OwnH.nil (w : World) (base : Nat) : OwnH w base (.slice none 0 0) [] := World.ownsRow_nil _ _ _ _
theorem OwnH.made0 (w : World) (base : Nat) (hb : base ≤ w.heap.size) : OwnH (w.alloc (.cells #[] 153)) base (.slice (some ⟨w.heap.size, 0, none⟩) 0 0) [] := World.ownsRow_made w #[] 0 hb (by unfold maxLen; omega) rfl
theorem OwnH.below {w w' : World} {base : Nat} {v : Value} {l : List Hdr} (h : OwnH w base v l) (hb : Below w.heap.size w w') : OwnH w' base v l := by
  obtain ⟨h1, h2⟩ := h
  refine ⟨h1, ?_⟩
  rcases h2 with h2 | ⟨g, c, cur, e, hg, hh, hrest⟩
  · exact .inl h2
  · exact .inr ⟨g, c, cur, e, hg, by rw [hb.block g (Array.getElem?_eq_some_iff.1 hh).1]; exact hh, hrest⟩
theorem OwnH.lower {w : World} {b0 base : Nat} {v : Value} {l : List Hdr} (h : OwnH w base v l) (hb : b0 ≤ base) : OwnH w b0 v l := by
  obtain ⟨h1, h2⟩ := h
  refine ⟨h1, ?_⟩
  rcases h2 with h2 | ⟨g, c, cur, e, hg, hrest⟩
  · exact .inl h2
  · exact .inr ⟨g, c, cur, e, by omega, hrest⟩
theorem OwnH.at {w : World} {base : Nat} {v : Value} {l : List Hdr} (h : OwnH w base v l) : ∃ a c, v = .slice a l.length c ∧ HdsIn w a l := by
  have h0 := h
  obtain ⟨_, h1 | ⟨g, c, cur, rfl, _⟩⟩ := h
  · have e : l = [] := List.eq_nil_of_length_eq_zero h1.2
    exact ⟨none, 0, by rw [h1.1, e]; rfl, .inl e⟩
  · refine ⟨_, c, rfl, .inr ⟨g, 0, rfl, fun i r hr => ?_⟩⟩
    have hi := (List.getElem?_eq_some_iff.1 hr).1
    obtain ⟨a1, a3⟩ := hdrsW_at l i r hr
    have c1 := World.ownsRow.cellAt h0 (i * 2) (by omega)
    have c3 := World.ownsRow.cellAt h0 (i * 2 + 1) (by omega)
    exact ⟨by rw [Nat.zero_add, c1, a1], by rw [Nat.zero_add, c3, a3]⟩
theorem own_geH {w : World} {base : Nat} {e : TypeId} {size : Nat} {v : Value} {n : Nat} {xs : List Value} (h : w.ownsRow base e size v n xs) (q : Nat) (hq : v.ownBlock = some q) : base ≤ q := by
  obtain ⟨_, h | ⟨g, c, cur, rfl, hg, _⟩⟩ := h
  · rw [h.1] at hq; cases hq
  · simp only [Value.ownBlock, Option.some.injEq] at hq; omega
theorem own_apartH {w : World} {base base' : Nat} {v pv : Value} {l : List Hdr} {L : List ByteArray} (hp : OwnS w base' pv L) (hv : OwnH w base v l) : pv.ownBlock = none ∨ pv.ownBlock ≠ v.ownBlock := by
  obtain ⟨_, hp | ⟨g, c, cur, rfl, _, hh, _⟩⟩ := hp
  · left; rw [hp.1]; rfl
  · right
    obtain ⟨_, hv | ⟨g2, c2, cur2, rfl, _, hh2, _⟩⟩ := hv
    · rw [hv.1]; simp [Value.ownBlock]
    · simp only [Value.ownBlock, ne_eq, Option.some.injEq]
      rintro rfl
      rw [hh] at hh2
      simp at hh2
theorem wpList_append_hdr {ops : Array Oper} {rest : List Oper} {o : Oper} {a : Act} {Q : Exit → Act → World → Prop} (w : World) (hgd : o.guard = none) (s x : Operand)
    (ho : o.op = .call { callee := .builtin .append, args := #[s, x], argTypes := #[31, 31] }) (base : Nat) (v : Value) (l : List Hdr) (n : ByteArray) (z : ByteArray)
    (hs : a.eval s = v) (hx : a.eval x = .slice (some ⟨w.heap.size, 0, none⟩) 1 1) (hown : OwnH w base v l) (hl : l.length ≤ 1000000) (hbase : base ≤ w.heap.size)
    (h : ∀ v' w', OwnH w' base v' (l ++ [⟨n, z⟩]) → Below base w w' → w.heap.size ≤ w'.heap.size → (∀ base' pv L, OwnS w base' pv L → OwnS w' base' pv L) → wpList Tryz.prog ops Q rest (a.put o.dst v') w') :
    wpList Tryz.prog ops Q (o :: rest) a (w.alloc (.cells #[.string n, .string z] 153)) := by
  obtain ⟨i0, hi, hz0, hz1, hz2⟩ := info_parts infoHeader
  refine wpList_append_own _ hgd s x 31 ho base 153 i0 (.agg #[.string ⟨#[]⟩, .string ⟨#[]⟩]) 2 32 Tryz.underlying31 hi hz0 hz1 hz2 rfl (by decide) v l.length (hdrsW l) hs (World.ownsRow.alloc hown _) ⟨w.heap.size, 0, none⟩ 1 1 [.string n, .string z] hx rfl ?_ ?_ ?_ ?_ ?_ ?_
  · intro j u hj
    match j, hj with
    | 0, hj => simp at hj; subst hj; simp [Addr.add]
    | 1, hj => simp at hj; subst hj; simp [Addr.add]
  · intro u hu; simp at hu; rcases hu with rfl | rfl <;> rfl
  · unfold maxLen; omega
  · omega
  · simp; omega
  · intro v' w' h1 h2 h3
    have e : hdrsW (l ++ [⟨n, z⟩]) = hdrsW l ++ [.string n, .string z] := by simp [hdrsW, hdrW]
    refine h v' w' (by unfold OwnH; rw [e, List.length_append]; exact h1) ?_ ?_ ?_
    · exact ((Below.refl base w).alloc hbase _).grown h2 (by simp; omega) (fun q hq => own_geH hown q hq)
    · have hb := ((Below.refl 0 w).alloc (Nat.zero_le _) (.cells #[.string n, .string z] 153)).grown h2 (Nat.zero_le _) (fun q _ => Nat.zero_le _)
      exact hb.size
    · intro base' pv L hp
      exact World.ownsRow.kept (World.ownsRow.alloc hp _) h2 (own_apartH hp hown)
end Go.Proofs.YtkchefbhpbpanaaGreatDoor
/-
  A row of bytes in memory, and small letters: no function of the program in sight.
-/
namespace Go.Proofs.YtkchefbhpbpanaaGreatDoor
/-- The block B holds the bytes l from its head on, none of them frozen. -/
structure BRow (w : World) (B : Nat) (l : List UInt8) : Prop where
  cell : ∀ j (hj : j < l.length), w.cell? ⟨B, j, none⟩ = some (.int .u8 (l[j].toNat : Int))
  free : ∀ j, j < l.length → w.frozen? ⟨B, j, none⟩ = false
theorem BRow.set {w : World} {B : Nat} {l : List UInt8} (h : BRow w B l) (k : Nat) (x : UInt8) : BRow (w.setCell ⟨B, k, none⟩ (.int .u8 (x.toNat : Int))) B (l.set k x) := by
  constructor
  · intro j hj
    simp only [List.length_set] at hj
    by_cases e : k = j
    · subst e
      rw [World.cell?_setCell_same _ _ _ (h.cell k hj)]
      simp
    · rw [World.cell?_setCell_other _ _ _ _ (by intro h2; exact e (congrArg Addr.off h2)), h.cell j hj, List.getElem_set_ne e]
  · intro j hj
    simp only [List.length_set] at hj
    rw [World.frozen?_setCell]
    exact h.free j hj
/-- What a conversion from a text lays. -/
theorem BRow.made (w : World) (s : ByteArray) (cap : Nat) (C : Array Value) (hC : C = bytesRow s cap) : BRow (w.alloc (.cells C 5 (C.size, C.size + 1))) w.heap.size s.data.toList := by
  subst hC
  have hsz : s.data.size ≤ (bytesRow s cap).size := by simp [bytesRow]
  constructor
  · intro j hj
    have hj' : j < s.data.size := by simpa using hj
    rw [World.cell?_alloc_mark, bytesRow_at s cap j hj']
    simp
  · intro j hj
    have hj' : j < s.data.size := by simpa using hj
    rw [World.frozen?_alloc_mark]
    simp
    omega
theorem BRow.back {P : Program} {w : World} {B : Nat} {l : List UInt8} (h : BRow w B l) (src dst e : TypeId) (n cap : Nat) (hn : n = l.length) (hs : P.underlying src = some (.slice e)) (he : P.underlying e = some (.int .u8)) (hd : P.underlying dst = some .string) :
    (convert src dst (.slice (some ⟨B, 0, none⟩) n cap)).run P w = .ok (.string ⟨l.toArray⟩) w := by
  subst hn
  refine run_convert_bytes_back w src dst e ⟨B, 0, none⟩ cap l hs he hd ?_
  intro j hj
  have := h.cell j hj
  by_cases e : j = 0
  · subst e; simpa [Addr.add] using this
  · simpa [Addr.add, e] using this
def lowU (c : UInt8) : UInt8 := if 65 ≤ (c.toNat : Int) ∧ (c.toNat : Int) ≤ 90 then UInt8.ofNat (c.toNat + 32) else c
theorem lowU_yes (c : UInt8) (h1 : 65 ≤ (c.toNat : Int)) (h2 : (c.toNat : Int) ≤ 90) : ((lowU c).toNat : Int) = (c.toNat : Int) + 32 := by
  unfold lowU
  rw [if_pos ⟨h1, h2⟩]
  simp
  omega
theorem lowU_no (c : UInt8) (h : ¬ (65 ≤ (c.toNat : Int) ∧ (c.toNat : Int) ≤ 90)) : lowU c = c := by
  unfold lowU
  rw [if_neg h]
/-- The bytes behind k rounds. -/
def lowK (l : List UInt8) (k : Nat) : List UInt8 := (l.take k).map lowU ++ l.drop k
theorem lowK_zero (l : List UInt8) : lowK l 0 = l := by simp [lowK]
theorem lowK_all (l : List UInt8) (k : Nat) (h : l.length ≤ k) : lowK l k = l.map lowU := by
  simp [lowK, List.take_of_length_le h, List.drop_of_length_le h]
theorem lowK_length (l : List UInt8) (k : Nat) : (lowK l k).length = l.length := by simp [lowK]; omega
theorem lowK_at? (l : List UInt8) (k : Nat) (h : k < l.length) : (lowK l k)[k]? = some l[k] := by
  unfold lowK
  rw [List.getElem?_append_right (by simp; omega)]
  simp [Nat.min_eq_left (Nat.le_of_lt h)]
theorem lowK_at (l : List UInt8) (k : Nat) (h : k < l.length) (h' : k < (lowK l k).length) : (lowK l k)[k] = l[k] := by
  have := lowK_at? l k h
  rw [List.getElem?_eq_getElem h'] at this
  exact Option.some.inj this
theorem lowK_succ (l : List UInt8) (k : Nat) (h : k < l.length) : lowK l (k + 1) = (lowK l k).set k (lowU l[k]) := by
  have hm : min k l.length = k := Nat.min_eq_left (Nat.le_of_lt h)
  unfold lowK
  rw [List.take_succ_eq_append_getElem h, List.map_append, List.drop_eq_getElem_cons h]
  rw [List.set_append_right _ _ (by simp [hm])]
  simp only [List.length_map, List.length_take, hm, Nat.sub_self, List.set_cons_zero, List.map_cons, List.map_nil, List.append_assoc, List.cons_append, List.nil_append]
theorem lowK_keep (l : List UInt8) (k : Nat) (h : k < l.length) (hn : ¬ (65 ≤ (l[k].toNat : Int) ∧ (l[k].toNat : Int) ≤ 90)) : lowK l (k + 1) = lowK l k := by
  have h2 : k < (lowK l k).length := by rw [lowK_length]; exact h
  rw [lowK_succ l k h, lowU_no _ hn, ← lowK_at l k h h2, List.set_getElem_self]
end Go.Proofs.YtkchefbhpbpanaaGreatDoor
/-
  Rows of bytes: the laws' own helpers over them.
-/
namespace Go.Proofs.YtkchefbhpbpanaaGreatDoor
open Go.ChangeShapes Go.WideShapes Go.ChangeAt Go.RowKit Go.Sort
def BAt (w : World) (b off : Nat) (l : List UInt8) : Prop := ∀ (i : Nat) c, l[i]? = some c → w.cell? ⟨b, off + i, none⟩ = some (.int .u8 (c.toNat : Int))
theorem BAt.keep {w w' : World} {b off : Nat} {l : List UInt8} (h : BAt w b off l) (hb : Below w.heap.size w w') : BAt w' b off l := by
  intro i c hc
  have := h i c hc
  rw [hb.cell (block_lt_of_cell this)]; exact this
def BIn (w : World) (a : Option Addr) (l : List UInt8) : Prop := l = [] ∨ ∃ b off, a = some ⟨b, off, none⟩ ∧ BAt w b off l
theorem BIn.keep {w w' : World} {a : Option Addr} {l : List UInt8} (h : BIn w a l) (hb : Below w.heap.size w w') : BIn w' a l := by
  rcases h with h | ⟨b, off, e, h⟩
  · exact .inl h
  · exact .inr ⟨b, off, e, h.keep hb⟩
structure BMine (W : World) (B : Nat) (l : List UInt8) : Prop where
  at0 : BAt W B 0 l
  free : ∀ o, o < l.length → W.frozen? ⟨B, o, none⟩ = false
  lt : B < W.heap.size
theorem BMine.keep {W W' : World} {B : Nat} {l : List UInt8} (h : BMine W B l) (hb : Below W.heap.size W W') : BMine W' B l :=
  ⟨h.at0.keep hb, fun o ho => by rw [hb.frozen (p := ⟨B, o, none⟩) h.lt]; exact h.free o ho, Nat.lt_of_lt_of_le h.lt hb.size⟩
theorem BMine.in {W : World} {B : Nat} {l : List UInt8} (h : BMine W B l) : BIn W (some ⟨B, 0, none⟩) l := .inr ⟨B, 0, rfl, h.at0⟩
theorem infoByteR : (Tryz.prog.info? 5).map (fun i => (i.zero, i.size, i.bytes)) = some (some (.int .u8 0), 1, 1) := by kernel_rfl
theorem BAt.put {w : World} {G : Nat} {l : List UInt8} {k n : Nat} {c : UInt8} (h : BAt w G 0 (l.take k)) (hr : l[k]? = some c) (hm : HRoom w G n) (hk : k < n) : BAt (w.setCell ⟨G, k, none⟩ (.int .u8 (c.toNat : Int))) G 0 (l.take (k + 1)) := by
  intro i q hq
  have hi : i < k + 1 := by
    have := (List.getElem?_eq_some_iff.1 hq).1
    simp at this; omega
  rw [List.getElem?_take_of_lt hi] at hq
  simp only [Nat.zero_add]
  by_cases e : i = k
  · subst e
    rw [hr] at hq
    obtain rfl := Option.some.inj hq
    obtain ⟨⟨u0, g0⟩, _⟩ := hm i (by omega)
    exact World.cell?_setCell_same _ _ _ g0
  · have hq2 : (l.take k)[i]? = some q := by rw [List.getElem?_take_of_lt (by omega)]; exact hq
    have a1 := h i q hq2
    simp only [Nat.zero_add] at a1
    rw [World.cell?_setCell_other _ _ _ _ (hoff_ne (by omega))]; exact a1
end Go.Proofs.YtkchefbhpbpanaaGreatDoor
