/-
  Texts of one claim, one behind the other.
-/
import Derived.Below
import Derived.BigQuiet
import Derived.Deep.AppendLies
import Derived.Deep.CutBlock
import Derived.Deep.CutRange
import Derived.Deep.MidRow
import Derived.Deep.QuietTactic
import Derived.Deep.RegionHeld3
import Derived.Deep.RegionWith
import Derived.Deep.Slices
import Derived.Deep.Strs
import Derived.Deep.WholeRow
import Derived.Laws.Cells
import Derived.Laws.IdiomCopy
import Derived.Laws.IdiomStrings
import Derived.Laws.OwnMore
import Derived.Lib.QuietBelow
import Derived.OpenShut
import Derived.ProofKit
import Derived.Shelf.LaysM
import Derived.Shelf.Small.Wraps
import Derived.Shelf.Strconv.Clone
import Derived.Shelf.Strconv.Itoa4
import Derived.Shelf.Strings.Cut
import Derived.Shelf.Strings.FieldsFuncAny
import Derived.Shelf.Strings.OnBuilder
import Derived.Shelf.Strings.Prefix
import Derived.Shelf.Strings.Search2
import Derived.Shelf.Strings.SlTrimAscii
import Derived.Shelf.Strings.Split
import Derived.Test.YthiiaefdobpjhaaGreatDoorProg
import Derived.WalkKit
import Derived.WalkLawsBesides
import Derived.WalkSpells
/-
  Small lemmas that the walks share.
-/
namespace Go.Proofs.YthiiaefdobpjhaaGreatDoor
open Go.ChangeShapes Go.WideShapes Go.ChangeAt Go.RowKit
theorem bcell {W w1 : World} (hb : Below W.heap.size W w1) : (∀ b o, b < W.heap.size → w1.cell? ⟨b, o, none⟩ = W.cell? ⟨b, o, none⟩) ∧ (∀ b o, b < W.heap.size → w1.frozen? ⟨b, o, none⟩ = W.frozen? ⟨b, o, none⟩) :=
  ⟨fun b o h => hb.cell (p := ⟨b, o, none⟩) h, fun b o h => hb.frozen (p := ⟨b, o, none⟩) h⟩
theorem two_set {w : World} {B : Nat} {u0 u1 v0 v1 : Value} (p0 : w.cell? ⟨B, 0, none⟩ = some u0) (p1 : w.cell? ⟨B, 1, none⟩ = some u1) :
    ((w.setCell ⟨B, 0, none⟩ v0).setCell ⟨B, 1, none⟩ v1).cell? ⟨B, 0, none⟩ = some v0 ∧ ((w.setCell ⟨B, 0, none⟩ v0).setCell ⟨B, 1, none⟩ v1).cell? ⟨B, 1, none⟩ = some v1 := by
  constructor
  · rw [World.cell?_setCell_other _ _ _ _ (by intro h; have := congrArg Addr.off h; simp at this), World.cell?_setCell_same _ _ _ p0]
  · refine World.cell?_setCell_same _ _ _ (u := u1) ?_
    rw [World.cell?_setCell_other _ _ _ _ (by intro h; have := congrArg Addr.off h; simp at this), p1]
theorem ret_int {k : IntKind} {a b : Int} (h : a = b) : Ending.returned (.int k a) = .returned (.int k b) := by rw [h]
theorem ret_bool {a b : Bool} (h : a = b) : Ending.returned (.bool a) = .returned (.bool b) := by rw [h]
theorem ret_str {a b : ByteArray} (h : a = b) : Ending.returned (.string a) = .returned (.string b) := by rw [h]
theorem take_snoc (s : ByteArray) (k : Nat) (h : k < s.size) : s.data.toList.take (k + 1) = s.data.toList.take k ++ [s[k]] := by
  rw [List.take_succ_eq_append_getElem (by simpa using h)]; rfl
end Go.Proofs.YthiiaefdobpjhaaGreatDoor
/-
  What a law keeps in memory while it goes on: facts that hang on the blocks of a stretch alone.
-/
namespace Go.Proofs.YthiiaefdobpjhaaGreatDoor
open Go.ChangeShapes Go.WideShapes Go.ChangeAt Go.RowKit
theorem hidL {p : Prop} (h : p) : Hid p := h
/-- What C says hangs on the blocks from l up to h alone. -/
def Dep (l h : Nat) (C : World → Prop) : Prop :=
  ∀ X X' : World, h ≤ X.heap.size → X.heap.size ≤ X'.heap.size → (∀ b o, l ≤ b → b < h → X'.cell? ⟨b, o, none⟩ = X.cell? ⟨b, o, none⟩ ∧ X'.frozen? ⟨b, o, none⟩ = X.frozen? ⟨b, o, none⟩) → C X → C X'
structure At (l h : Nat) (C : Nat → Nat → World → Prop) (X : World) : Prop where
  le : h ≤ X.heap.size
  dep : Dep l h (C l h)
  val : C l h X
/-- Nothing is written but in the blocks from lo up to hi, and in new ones. -/
structure Wi (lo hi : Nat) (X X' : World) : Prop where
  size : X.heap.size ≤ X'.heap.size
  cell : ∀ b o, b < X.heap.size → (b < lo ∨ hi ≤ b) → X'.cell? ⟨b, o, none⟩ = X.cell? ⟨b, o, none⟩
  frozen : ∀ b o, b < X.heap.size → (b < lo ∨ hi ≤ b) → X'.frozen? ⟨b, o, none⟩ = X.frozen? ⟨b, o, none⟩
theorem At.wi {l h lo hi : Nat} {C : Nat → Nat → World → Prop} {X X' : World} (k : At l h C X) (g : Wi lo hi X X') (hd : h ≤ lo ∨ hi ≤ l) : At l h C X' :=
  ⟨Nat.le_trans k.le g.size, k.dep, k.dep X X' k.le g.size (fun b o h1 h2 => ⟨g.cell b o (Nat.lt_of_lt_of_le h2 k.le) (by omega), g.frozen b o (Nat.lt_of_lt_of_le h2 k.le) (by omega)⟩) k.val⟩
theorem Wi.of {lo hi : Nat} {X X' : World} (hb : Below X.heap.size X X') : Wi lo hi X X' :=
  ⟨hb.size, fun b o h _ => hb.cell (p := ⟨b, o, none⟩) h, fun b o h _ => hb.frozen (p := ⟨b, o, none⟩) h⟩
theorem At.keep {l h : Nat} {C : Nat → Nat → World → Prop} {X X' : World} (k : At l h C X) (hb : Below X.heap.size X X') : At l h C X' :=
  k.wi (lo := h) (hi := h) (Wi.of hb) (.inl (Nat.le_refl _))
theorem At.al {l h : Nat} {C : Nat → Nat → World → Prop} {X : World} (k : At l h C X) (o : Obj) : At l h C (X.alloc o) := k.keep ((Below.refl _ _).alloc (Nat.le_refl _) _)
theorem At.set {l h : Nat} {C : Nat → Nat → World → Prop} {X : World} (k : At l h C X) {b i : Nat} (u : Value) (hd : b < l ∨ h ≤ b) : At l h C (X.setCell ⟨b, i, none⟩ u) :=
  k.wi (lo := b) (hi := b + 1) ⟨by simp, fun b' o _ hne => World.cell?_setCell_other _ _ _ _ (fun e => by have := congrArg Addr.block e; simp only at this; omega), fun b' o _ _ => by rw [World.frozen?_setCell]⟩ (by omega)
/-- A box that lies there. -/
def Bx (b : Nat) (vs : List Value) (_ _ : Nat) (X : World) : Prop := (∀ i v, vs[i]? = some v → X.cell? ⟨b, i, none⟩ = some v) ∧ ∀ o, X.frozen? ⟨b, o, none⟩ = false
theorem Bx.dep (b : Nat) (vs : List Value) (l h : Nat) : Dep b (b + 1) (Bx b vs l h) := fun X X' _ _ h k =>
  ⟨fun i v hv => by rw [(h b i (Nat.le_refl _) (Nat.lt_succ_self _)).1]; exact k.1 i v hv, fun o => by rw [(h b o (Nat.le_refl _) (Nat.lt_succ_self _)).2]; exact k.2 o⟩
theorem Bx.new (X : World) (vs : List Value) (t : TypeId) : At X.heap.size (X.heap.size + 1) (Bx X.heap.size vs) (X.alloc (.cells vs.toArray t)) := by
  refine ⟨by simp, Bx.dep _ _ _ _, fun i v hv => ?_, fun o => ?_⟩
  · rw [World.cell?_alloc_mark]
    simpa using hv
  · have e := heap_alloc_new X (.cells vs.toArray t)
    unfold World.frozen?
    rw [e]
    simp
theorem Bx.newAt {X : World} {b : Nat} (hb : X.heap.size = b) (vs : List Value) (t : TypeId) : At b (b + 1) (Bx b vs) (X.alloc (.cells vs.toArray t)) := by
  subst hb
  exact Bx.new X vs t
theorem Bx.put {X : World} {b : Nat} {vs : List Value} (k : At b (b + 1) (Bx b vs) X) (i : Nat) (u : Value) (hi : i < vs.length) : At b (b + 1) (Bx b (vs.set i u)) (X.setCell ⟨b, i, none⟩ u) := by
  refine ⟨by simpa using k.le, Bx.dep _ _ _ _, fun j v hv => ?_, fun o => by rw [World.frozen?_setCell]; exact k.val.2 o⟩
  by_cases e : j = i
  · subst e
    rw [List.getElem?_set_self hi] at hv
    obtain rfl := Option.some.inj hv
    exact World.cell?_setCell_same _ _ _ (k.val.1 j (vs[j]) (List.getElem?_eq_getElem hi))
  · rw [List.getElem?_set_ne (fun q => e q.symm)] at hv
    rw [World.cell?_setCell_other _ _ _ _ (fun q => e (by have := congrArg Addr.off q; simpa using this.symm))]
    exact k.val.1 j v hv
theorem Wi.trans {lo hi : Nat} {X Y Z : World} (g : Wi lo hi X Y) (k : Wi lo hi Y Z) : Wi lo hi X Z :=
  ⟨Nat.le_trans g.size k.size, fun b o h1 h2 => by rw [k.cell b o (Nat.lt_of_lt_of_le h1 g.size) h2]; exact g.cell b o h1 h2, fun b o h1 h2 => by rw [k.frozen b o (Nat.lt_of_lt_of_le h1 g.size) h2]; exact g.frozen b o h1 h2⟩
theorem Wi.wide {lo hi l h : Nat} {X Y : World} (g : Wi lo hi X Y) (h1 : l ≤ lo) (h2 : hi ≤ h) : Wi l h X Y :=
  ⟨g.size, fun b o hb hd => g.cell b o hb (by omega), fun b o hb hd => g.frozen b o hb (by omega)⟩
end Go.Proofs.YthiiaefdobpjhaaGreatDoor
/-
  A box that is written cell by cell.
-/
namespace Go.Proofs.YthiiaefdobpjhaaGreatDoor
open Go.ChangeShapes Go.WideShapes Go.ChangeAt Go.RowKit
def putAll (X : World) (b : Nat) : Nat → List Value → World
  | _, [] => X
  | i, v :: vs => putAll (X.setCell ⟨b, i, none⟩ v) b (i + 1) vs
theorem Bx.putFrom {b : Nat} : ∀ (vs : List Value) (X : World) (i : Nat) (zs : List Value), zs.length = i + vs.length → At b (b + 1) (Bx b zs) X → At b (b + 1) (Bx b (zs.take i ++ vs)) (putAll X b i vs)
  | [], X, i, zs, hl, k => by
    rw [List.append_nil, List.take_of_length_le (by simp at hl; omega)]
    exact k
  | v :: vs, X, i, zs, hl, k => by
    have hi : i < zs.length := by rw [hl, List.length_cons]; omega
    have r := Bx.putFrom vs (X.setCell ⟨b, i, none⟩ v) (i + 1) (zs.set i v) (by rw [List.length_set, hl, List.length_cons]; omega) (Bx.put k i v hi)
    have e : (zs.set i v).take (i + 1) ++ vs = zs.take i ++ v :: vs := by
      rw [List.take_succ_eq_append_getElem (by rw [List.length_set]; exact hi), List.getElem_set_self, List.take_set_of_le (Nat.le_refl _)]
      simp
    rw [e] at r
    exact r
theorem Bx.putAll {b : Nat} {X : World} {zs : List Value} (k : At b (b + 1) (Bx b zs) X) (vs : List Value) (hl : zs.length = vs.length) : At b (b + 1) (Bx b vs) (putAll X b 0 vs) := by
  have r := Bx.putFrom vs X 0 zs (by omega) k
  simpa using r
theorem At.putAll {l h b : Nat} {C : Nat → Nat → World → Prop} (hd : b < l ∨ h ≤ b) : ∀ (vs : List Value) (i : Nat) {X : World}, At l h C X → At l h C (putAll X b i vs)
  | [], _, _, k => k
  | v :: vs, i, _, k => At.putAll hd vs (i + 1) (k.set v hd)
theorem below_putAll {base b : Nat} {w : World} (hb : base ≤ b) : ∀ (vs : List Value) (i : Nat) {X : World}, Below base w X → Below base w (putAll X b i vs)
  | [], _, _, k => k
  | v :: vs, i, _, k => below_putAll hb vs (i + 1) (k.setCell hb v)
end Go.Proofs.YthiiaefdobpjhaaGreatDoor
/-
  A whole struct that is loaded out of one box and stored into another one, at once.
-/
namespace Go.Proofs.YthiiaefdobpjhaaGreatDoor
open Go.ChangeShapes Go.WideShapes Go.ChangeAt Go.RowKit
theorem putAll_eq (b : Nat) : ∀ (vs : List Value) (i : Nat) (X : World), X.setCells b i vs = putAll X b i vs
  | [], _, _ => rfl
  | v :: vs, i, X => by rw [World.setCells, putAll, putAll_eq b vs (i + 1)]
theorem wp_copyOut {P : Program} {id s1 s2 d : Nat} {t ty1 ty2 : TypeId} {pos1 pos2 : String} {af1 af2 : Array Edge} {Q : Exit → Act → World → Prop} {a : Act} {X : World} {b1 b2 : Nat} {vs zs : List Value} {fs : _}
    (ht : P.underlying t = some (.struct fs)) (hz : (P.info? t).map (·.size) = some vs.length)
    (h1 : a.eval (.tmp s1) = .pointer (some ⟨b1, 0, none⟩)) (h2 : ∀ v, (a.put (some d) v).eval (.tmp s2) = .pointer (some ⟨b2, 0, none⟩)) (h3 : ∀ v, (a.put (some d) v).eval (.tmp d) = v)
    (k1 : ∀ i v, vs[i]? = some v → X.cell? ⟨b1, i, none⟩ = some v) (k2 : ∀ i v, zs[i]? = some v → X.cell? ⟨b2, i, none⟩ = some v) (f2 : ∀ o, X.frozen? ⟨b2, o, none⟩ = false) (hl : zs.length = vs.length) (one : vs.all (·.oneCell') = true)
    (K : Q .normal (a.put (some d) (.agg vs.toArray)) (putAll X b2 0 vs)) :
    (Code.region id #[{ dst := some d, op := .load t (.tmp s1), type := ty1, pos := pos1, after := af1, guard := none }, { dst := none, op := .store t (.tmp s2) (.tmp d), type := ty2, pos := pos2, after := af2, guard := none }] false).wp P Q a X := by
  have hadd : ∀ i, (⟨b1, 0, none⟩ : Addr).add i = ⟨b1, i, none⟩ := fun i => by unfold Addr.add; split <;> simp_all
  have hL := run_loadCells_list (P := P) X ⟨b1, 0, none⟩ vs (fun j v hv => by rw [hadd]; exact k1 j v hv)
  have hS := run_storeCells_cells (P := P) b2 0 vs 0 X (fun j hj => by
      obtain ⟨z, hzz⟩ : ∃ z, zs[j]? = some z := ⟨zs[j]'(by omega), List.getElem?_eq_getElem _⟩
      have := k2 j z hzz
      simp only [Nat.zero_add]
      rw [this]; rfl) (fun j _ => f2 _) (fun v hv => List.all_eq_true.1 one v hv)
  rw [Nat.add_zero, putAll_eq] at hS
  obtain ⟨inf, hi, hsz⟩ := Option.map_eq_some_iff.1 hz
  refine wp_region_list ?_
  have hL' : (loadCellsFrom ⟨b1, 0, none⟩ 0 vs.length #[]).run P X = .ok vs.toArray X := hL
  have e1 : ∀ ρ : Operand → Value, ρ (.tmp s1) = .pointer (some ⟨b1, 0, none⟩) → (execOp ρ { dst := some d, op := .load t (.tmp s1), type := ty1, pos := pos1, after := af1, guard := none }).run P X = .ok (.value (.agg vs.toArray)) X := fun ρ h => by
    simp [execOp, Instr.loadAt, loadVar, isAgg, sizeOf, typeInfo, underlying, h, ht, hi, hsz, hL', go_sem]
  have e2 : ∀ ρ : Operand → Value, ρ (.tmp s2) = .pointer (some ⟨b2, 0, none⟩) → ρ (.tmp d) = .agg vs.toArray → (execOp ρ { dst := none, op := .store t (.tmp s2) (.tmp d), type := ty2, pos := pos2, after := af2, guard := none }).run P X = .ok .skip (putAll X b2 0 vs) := fun ρ h h' => by
    simp [execOp, Instr.storeAt, storeVar, sizeOf, typeInfo, h, h', hi, hsz, hS, Value.cells, go_sem]
  have w1 := e1 a.eval h1
  have w2 := e2 (a.put (some d) (.agg vs.toArray)).eval (h2 _) (h3 _)
  clear hL hL' hS e1 e2 h1 h2 h3
  unfold wpList
  rw [if_pos (by simp [Region.wanted])]
  refine .inl ?_
  unfold Oper.wp
  rw [w1]
  show wpList _ _ _ _ _ _
  unfold wpList
  rw [if_pos (by simp [Region.wanted])]
  refine .inl ?_
  unfold Oper.wp
  rw [w2]
  show wpList _ _ _ _ _ _
  unfold wpList
  exact K
theorem wpList_loadAll {P : Program} {ops : Array Oper} {rest : List Oper} {s d b : Nat} {t ty : TypeId} {pos : String} {af : Array Edge} {Q : Exit → Act → World → Prop} {a : Act} {X : World} {vs : List Value} {fs : _}
    (ht : P.underlying t = some (.struct fs)) (hz : (P.info? t).map (·.size) = some vs.length)
    (h1 : a.eval (.tmp s) = .pointer (some ⟨b, 0, none⟩))
    (k1 : ∀ i v, vs[i]? = some v → X.cell? ⟨b, i, none⟩ = some v)
    (K : wpList P ops Q rest (a.put (some d) (.agg vs.toArray)) X) :
    wpList P ops Q ({ dst := some d, op := .load t (.tmp s), type := ty, pos := pos, after := af, guard := none } :: rest) a X := by
  have hadd : ∀ i, (⟨b, 0, none⟩ : Addr).add i = ⟨b, i, none⟩ := fun i => by unfold Addr.add; split <;> simp_all
  have hL := run_loadCells_list (P := P) X ⟨b, 0, none⟩ vs (fun j v hv => by rw [hadd]; exact k1 j v hv)
  obtain ⟨inf, hi, hsz⟩ := Option.map_eq_some_iff.1 hz
  have hL' : (loadCellsFrom ⟨b, 0, none⟩ 0 vs.length #[]).run P X = .ok vs.toArray X := hL
  have e1 : ∀ ρ : Operand → Value, ρ (.tmp s) = .pointer (some ⟨b, 0, none⟩) → (execOp ρ { dst := some d, op := .load t (.tmp s), type := ty, pos := pos, after := af, guard := none }).run P X = .ok (.value (.agg vs.toArray)) X := fun ρ h => by
    simp [execOp, Instr.loadAt, loadVar, isAgg, sizeOf, typeInfo, underlying, h, ht, hi, hsz, hL', go_sem]
  have w1 := e1 a.eval h1
  clear hL hL' e1 h1
  unfold wpList
  rw [if_pos (by simp [Region.wanted])]
  refine .inl ?_
  unfold Oper.wp
  rw [w1]
  exact K
theorem wpList_storeNew {P : Program} {ops : Array Oper} {rest : List Oper} {s d : Nat} {t ty : TypeId} {pos : String} {af : Array Edge} {Q : Exit → Act → World → Prop} {a : Act} {X : World} {c c' : Array Value}
    (hz : (P.info? t).map (·.size) = some c'.size) (hl : c.size = c'.size) (one : c'.all (·.oneCell') = true)
    (h1 : a.eval (.tmp s) = .pointer (some ⟨X.heap.size, 0, none⟩)) (h2 : a.eval (.tmp d) = .agg c')
    (K : wpList P ops Q rest (a.put none undef) (X.alloc (.cells c' t))) :
    wpList P ops Q ({ dst := none, op := .store t (.tmp s) (.tmp d), type := ty, pos := pos, after := af, guard := none } :: rest) a (X.alloc (.cells c t)) := by
  have hS := run_storeCells_new (P := P) X t c c' hz hl one
  obtain ⟨inf, hi, hsz⟩ := Option.map_eq_some_iff.1 hz
  have e2 : ∀ ρ : Operand → Value, ρ (.tmp s) = .pointer (some ⟨X.heap.size, 0, none⟩) → ρ (.tmp d) = .agg c' → (execOp ρ { dst := none, op := .store t (.tmp s) (.tmp d), type := ty, pos := pos, after := af, guard := none }).run P (X.alloc (.cells c t)) = .ok .skip (X.alloc (.cells c' t)) := fun ρ h h' => by
    have hS' : (storeCells ⟨X.heap.size, 0, none⟩ c'.toList 0).run P (X.alloc (.cells c t)) = .ok () (X.alloc (.cells c' t)) := hS
    simp [execOp, Instr.storeAt, storeVar, sizeOf, typeInfo, h, h', hi, hsz, hS', Value.cells, go_sem]
  have w2 := e2 a.eval h1 h2
  clear hS e2 h1 h2
  unfold wpList
  rw [if_pos (by simp [Region.wanted])]
  refine .inl ?_
  unfold Oper.wp
  rw [w2]
  exact K
theorem operwp_storeNew {P : Program} {next : Act → World → Prop} {s d : Nat} {t ty : TypeId} {pos : String} {af : Array Edge} {Q : Exit → Act → World → Prop} {a : Act} {X : World} {c c' : Array Value}
    (hz : (P.info? t).map (·.size) = some c'.size) (hl : c.size = c'.size) (one : c'.all (·.oneCell') = true)
    (h1 : a.eval (.tmp s) = .pointer (some ⟨X.heap.size, 0, none⟩)) (h2 : a.eval (.tmp d) = .agg c')
    (K : next (a.put none undef) (X.alloc (.cells c' t))) :
    Oper.wp P { dst := none, op := .store t (.tmp s) (.tmp d), type := ty, pos := pos, after := af, guard := none } a (X.alloc (.cells c t)) next Q := by
  have hS := run_storeCells_new (P := P) X t c c' hz hl one
  obtain ⟨inf, hi, hsz⟩ := Option.map_eq_some_iff.1 hz
  have e2 : ∀ ρ : Operand → Value, ρ (.tmp s) = .pointer (some ⟨X.heap.size, 0, none⟩) → ρ (.tmp d) = .agg c' → (execOp ρ { dst := none, op := .store t (.tmp s) (.tmp d), type := ty, pos := pos, after := af, guard := none }).run P (X.alloc (.cells c t)) = .ok .skip (X.alloc (.cells c' t)) := fun ρ h h' => by
    have hS' : (storeCells ⟨X.heap.size, 0, none⟩ c'.toList 0).run P (X.alloc (.cells c t)) = .ok () (X.alloc (.cells c' t)) := hS
    simp [execOp, Instr.storeAt, storeVar, sizeOf, typeInfo, h, h', hi, hsz, hS', Value.cells, go_sem]
  have w2 := e2 a.eval h1 h2
  clear hS e2 h1 h2
  unfold Oper.wp
  rw [w2]
  exact K
theorem operwp_loadAll {P : Program} {next : Act → World → Prop} {s d b : Nat} {t ty : TypeId} {pos : String} {af : Array Edge} {Q : Exit → Act → World → Prop} {a : Act} {X : World} {vs : List Value} {fs : _}
    (ht : P.underlying t = some (.struct fs)) (hz : (P.info? t).map (·.size) = some vs.length)
    (h1 : a.eval (.tmp s) = .pointer (some ⟨b, 0, none⟩))
    (k1 : ∀ i v, vs[i]? = some v → X.cell? ⟨b, i, none⟩ = some v)
    (K : next (a.put (some d) (.agg vs.toArray)) X) :
    Oper.wp P { dst := some d, op := .load t (.tmp s), type := ty, pos := pos, after := af, guard := none } a X next Q := by
  have hadd : ∀ i, (⟨b, 0, none⟩ : Addr).add i = ⟨b, i, none⟩ := fun i => by unfold Addr.add; split <;> simp_all
  have hL := run_loadCells_list (P := P) X ⟨b, 0, none⟩ vs (fun j v hv => by rw [hadd]; exact k1 j v hv)
  obtain ⟨inf, hi, hsz⟩ := Option.map_eq_some_iff.1 hz
  have hL' : (loadCellsFrom ⟨b, 0, none⟩ 0 vs.length #[]).run P X = .ok vs.toArray X := hL
  have e1 : ∀ ρ : Operand → Value, ρ (.tmp s) = .pointer (some ⟨b, 0, none⟩) → (execOp ρ { dst := some d, op := .load t (.tmp s), type := ty, pos := pos, after := af, guard := none }).run P X = .ok (.value (.agg vs.toArray)) X := fun ρ h => by
    simp [execOp, Instr.loadAt, loadVar, isAgg, sizeOf, typeInfo, underlying, h, ht, hi, hsz, hL', go_sem]
  have w1 := e1 a.eval h1
  clear hL hL' e1 h1
  unfold Oper.wp
  rw [w1]
  exact K
theorem loads_of {P : Program} {X : World} {b n : Nat} {vs : List Value} (k1 : ∀ i v, vs[i]? = some v → X.cell? ⟨b, i, none⟩ = some v) (hl : vs.length = n) :
    (loadCellsFrom ⟨b, 0, none⟩ 0 n #[]).run P X = .ok vs.toArray X := by
  have hadd : ∀ i, (⟨b, 0, none⟩ : Addr).add i = ⟨b, i, none⟩ := fun i => by unfold Addr.add; split <;> simp_all
  have hL := run_loadCells_list (P := P) X ⟨b, 0, none⟩ vs (fun j v hv => by rw [hadd]; exact k1 j v hv)
  rw [hl] at hL
  exact hL
theorem range_of {X : World} {b : Nat} {vs : List Value} (k1 : ∀ i v, vs[i]? = some v → X.cell? ⟨b, i, none⟩ = some v) : X.rangeAt b 0 vs := fun j v h => by
  rw [Nat.zero_add]
  exact k1 j v h
theorem loads_sub {P : Program} {X : World} {b off n : Nat} {vs us : List Value} (k1 : ∀ i v, vs[i]? = some v → X.cell? ⟨b, i, none⟩ = some v) (hu : (vs.drop off).take n = us) (hl : us.length = n) :
    (loadCellsFrom ⟨b, off, none⟩ 0 n #[]).run P X = .ok us.toArray X := by
  have hadd : ∀ i, (⟨b, off, none⟩ : Addr).add i = ⟨b, off + i, none⟩ := fun i => by unfold Addr.add; split <;> simp_all
  have hL := run_loadCells_list (P := P) X ⟨b, off, none⟩ us (fun j v hv => by
    rw [hadd]
    refine k1 (off + j) v ?_
    rw [← hu, List.getElem?_take] at hv
    split at hv
    · rw [← List.getElem?_drop]; exact hv
    · cases hv)
  rw [hl] at hL
  exact hL
theorem wpList_storeBox {P : Program} {ops : Array Oper} {rest : List Oper} {s d : Nat} {t ty : TypeId} {pos : String} {af : Array Edge} {Q : Exit → Act → World → Prop} {a : Act} {X : World} {b : Nat} {zs : List Value} {c' : Array Value}
    (hz : (P.info? t).map (·.size) = some c'.size) (hl : zs.length = c'.size) (one : c'.toList.all (·.oneCell') = true)
    (h1 : a.eval (.tmp s) = .pointer (some ⟨b, 0, none⟩)) (h2 : a.eval (.tmp d) = .agg c')
    (k2 : ∀ i v, zs[i]? = some v → X.cell? ⟨b, i, none⟩ = some v) (f2 : ∀ o, X.frozen? ⟨b, o, none⟩ = false)
    (K : wpList P ops Q rest (a.put none undef) (putAll X b 0 c'.toList)) :
    wpList P ops Q ({ dst := none, op := .store t (.tmp s) (.tmp d), type := ty, pos := pos, after := af, guard := none } :: rest) a X := by
  have hS := run_storeCells_cells (P := P) b 0 c'.toList 0 X (fun j hj => by
      obtain ⟨z, hzz⟩ : ∃ z, zs[j]? = some z := ⟨zs[j]'(by rw [hl]; simpa using hj), List.getElem?_eq_getElem _⟩
      have := k2 j z hzz
      simp only [Nat.zero_add]
      rw [this]; rfl) (fun j _ => f2 _) (fun v hv => List.all_eq_true.1 one v hv)
  rw [Nat.add_zero, putAll_eq] at hS
  obtain ⟨inf, hi, hsz⟩ := Option.map_eq_some_iff.1 hz
  have e2 : ∀ ρ : Operand → Value, ρ (.tmp s) = .pointer (some ⟨b, 0, none⟩) → ρ (.tmp d) = .agg c' → (execOp ρ { dst := none, op := .store t (.tmp s) (.tmp d), type := ty, pos := pos, after := af, guard := none }).run P X = .ok .skip (putAll X b 0 c'.toList) := fun ρ h h' => by
    simp [execOp, Instr.storeAt, storeVar, sizeOf, typeInfo, h, h', hi, hsz, hS, Value.cells, go_sem]
  have w2 := e2 a.eval h1 h2
  clear hS e2 h1 h2
  unfold wpList
  rw [if_pos (by simp [Region.wanted])]
  refine .inl ?_
  unfold Oper.wp
  rw [w2]
  exact K
theorem wpList_loadSub {P : Program} {ops : Array Oper} {rest : List Oper} {s d b off : Nat} {t ty : TypeId} {pos : String} {af : Array Edge} {Q : Exit → Act → World → Prop} {a : Act} {X : World} {vs us : List Value} {fs : _}
    (ht : P.underlying t = some (.struct fs)) (hz : (P.info? t).map (·.size) = some us.length)
    (h1 : a.eval (.tmp s) = .pointer (some ⟨b, off, none⟩))
    (k1 : ∀ i v, vs[i]? = some v → X.cell? ⟨b, i, none⟩ = some v)
    (hu : (vs.drop off).take us.length = us)
    (K : wpList P ops Q rest (a.put (some d) (.agg us.toArray)) X) :
    wpList P ops Q ({ dst := some d, op := .load t (.tmp s), type := ty, pos := pos, after := af, guard := none } :: rest) a X := by
  have hL' := loads_sub (P := P) k1 hu rfl
  obtain ⟨inf, hi, hsz⟩ := Option.map_eq_some_iff.1 hz
  have e1 : ∀ ρ : Operand → Value, ρ (.tmp s) = .pointer (some ⟨b, off, none⟩) → (execOp ρ { dst := some d, op := .load t (.tmp s), type := ty, pos := pos, after := af, guard := none }).run P X = .ok (.value (.agg us.toArray)) X := fun ρ h => by
    simp [execOp, Instr.loadAt, loadVar, isAgg, sizeOf, typeInfo, underlying, h, ht, hi, hsz, hL', go_sem]
  have w1 := e1 a.eval h1
  clear hL' e1 h1
  unfold wpList
  rw [if_pos (by simp [Region.wanted])]
  refine .inl ?_
  unfold Oper.wp
  rw [w1]
  exact K
theorem wpList_loadAllG {P : Program} {ops : Array Oper} {rest : List Oper} {s d b : Nat} {t ty : TypeId} {pos : String} {af : Array Edge} {gd : Option (Nat × Bool)} {Q : Exit → Act → World → Prop} {a : Act} {X : World} {vs : List Value} {fs : _}
    (hw : Region.wanted { dst := some d, op := .load t (.tmp s), type := ty, pos := pos, after := af, guard := gd } (yielded ops a.tmps) = true) (ht : P.underlying t = some (.struct fs)) (hz : (P.info? t).map (·.size) = some vs.length)
    (h1 : a.eval (.tmp s) = .pointer (some ⟨b, 0, none⟩))
    (k1 : ∀ i v, vs[i]? = some v → X.cell? ⟨b, i, none⟩ = some v)
    (K : wpList P ops Q rest (a.put (some d) (.agg vs.toArray)) X) :
    wpList P ops Q ({ dst := some d, op := .load t (.tmp s), type := ty, pos := pos, after := af, guard := gd } :: rest) a X := by
  have hadd : ∀ i, (⟨b, 0, none⟩ : Addr).add i = ⟨b, i, none⟩ := fun i => by unfold Addr.add; split <;> simp_all
  have hL := run_loadCells_list (P := P) X ⟨b, 0, none⟩ vs (fun j v hv => by rw [hadd]; exact k1 j v hv)
  obtain ⟨inf, hi, hsz⟩ := Option.map_eq_some_iff.1 hz
  have hL' : (loadCellsFrom ⟨b, 0, none⟩ 0 vs.length #[]).run P X = .ok vs.toArray X := hL
  have e1 : ∀ ρ : Operand → Value, ρ (.tmp s) = .pointer (some ⟨b, 0, none⟩) → (execOp ρ { dst := some d, op := .load t (.tmp s), type := ty, pos := pos, after := af, guard := gd }).run P X = .ok (.value (.agg vs.toArray)) X := fun ρ h => by
    simp [execOp, Instr.loadAt, loadVar, isAgg, sizeOf, typeInfo, underlying, h, ht, hi, hsz, hL', go_sem]
  have w1 := e1 a.eval h1
  clear hL hL' e1 h1
  unfold wpList
  rw [if_pos hw]
  refine .inl ?_
  unfold Oper.wp
  rw [w1]
  exact K
end Go.Proofs.YthiiaefdobpjhaaGreatDoor
/-
  Events loaded and stored at once.
-/
namespace Go.Proofs.YthiiaefdobpjhaaGreatDoor
open Go.ChangeShapes Go.WideShapes Go.ChangeAt Go.RowKit
theorem evL_size : (Tryz.prog.info? 29).map (·.size) = some 12 := by kernel_rfl
theorem evL_load {ops : Array Oper} {rest : List Oper} {s d b : Nat} {ty : TypeId} {pos : String} {af : Array Edge} {Q : Exit → Act → World → Prop} {a : Act} {X : World} {vs : List Value} (hl : vs.length = 12)
    (h1 : a.eval (.tmp s) = .pointer (some ⟨b, 0, none⟩)) (k1 : ∀ i v, vs[i]? = some v → X.cell? ⟨b, i, none⟩ = some v)
    (K : wpList Tryz.prog ops Q rest (a.put (some d) (.agg vs.toArray)) X) :
    wpList Tryz.prog ops Q ({ dst := some d, op := .load 29 (.tmp s), type := ty, pos := pos, after := af, guard := none } :: rest) a X :=
  wpList_loadAll Tryz.underlying29 (by rw [hl]; exact evL_size) h1 k1 K
theorem evL_loadW {next : Act → World → Prop} {s d b : Nat} {ty : TypeId} {pos : String} {af : Array Edge} {Q : Exit → Act → World → Prop} {a : Act} {X : World} {vs : List Value} (hl : vs.length = 12)
    (h1 : a.eval (.tmp s) = .pointer (some ⟨b, 0, none⟩)) (k1 : ∀ i v, vs[i]? = some v → X.cell? ⟨b, i, none⟩ = some v)
    (K : next (a.put (some d) (.agg vs.toArray)) X) :
    Oper.wp Tryz.prog { dst := some d, op := .load 29 (.tmp s), type := ty, pos := pos, after := af, guard := none } a X next Q :=
  operwp_loadAll Tryz.underlying29 (by rw [hl]; exact evL_size) h1 k1 K
theorem evL_loadG {ops : Array Oper} {rest : List Oper} {s d b : Nat} {ty : TypeId} {pos : String} {af : Array Edge} {gd : Option (Nat × Bool)} {Q : Exit → Act → World → Prop} {a : Act} {X : World} {vs : List Value} (hl : vs.length = 12)
    (h1 : a.eval (.tmp s) = .pointer (some ⟨b, 0, none⟩)) (hw : Region.wanted { dst := some d, op := .load 29 (.tmp s), type := ty, pos := pos, after := af, guard := gd } (yielded ops a.tmps) = true) (k1 : ∀ i v, vs[i]? = some v → X.cell? ⟨b, i, none⟩ = some v)
    (K : wpList Tryz.prog ops Q rest (a.put (some d) (.agg vs.toArray)) X) :
    wpList Tryz.prog ops Q ({ dst := some d, op := .load 29 (.tmp s), type := ty, pos := pos, after := af, guard := gd } :: rest) a X :=
  wpList_loadAllG hw Tryz.underlying29 (by rw [hl]; exact evL_size) h1 k1 K
theorem evL_loadAt {ops : Array Oper} {rest : List Oper} {s d b off : Nat} {ty : TypeId} {pos : String} {af : Array Edge} {Q : Exit → Act → World → Prop} {a : Act} {X : World} {vs us : List Value} (hl : us.length = 12)
    (h1 : a.eval (.tmp s) = .pointer (some ⟨b, off, none⟩)) (hu : (vs.drop off).take us.length = us) (k1 : ∀ i v, vs[i]? = some v → X.cell? ⟨b, i, none⟩ = some v)
    (K : wpList Tryz.prog ops Q rest (a.put (some d) (.agg us.toArray)) X) :
    wpList Tryz.prog ops Q ({ dst := some d, op := .load 29 (.tmp s), type := ty, pos := pos, after := af, guard := none } :: rest) a X :=
  wpList_loadSub Tryz.underlying29 (by rw [hl]; exact evL_size) h1 k1 hu K
theorem evI_size : (Tryz.prog.info? 38).map (·.size) = some 12 := by kernel_rfl
theorem evI_load {ops : Array Oper} {rest : List Oper} {s d b : Nat} {ty : TypeId} {pos : String} {af : Array Edge} {Q : Exit → Act → World → Prop} {a : Act} {X : World} {vs : List Value} (hl : vs.length = 12)
    (h1 : a.eval (.tmp s) = .pointer (some ⟨b, 0, none⟩)) (k1 : ∀ i v, vs[i]? = some v → X.cell? ⟨b, i, none⟩ = some v)
    (K : wpList Tryz.prog ops Q rest (a.put (some d) (.agg vs.toArray)) X) :
    wpList Tryz.prog ops Q ({ dst := some d, op := .load 38 (.tmp s), type := ty, pos := pos, after := af, guard := none } :: rest) a X :=
  wpList_loadAll Tryz.underlying38 (by rw [hl]; exact evI_size) h1 k1 K
theorem evI_loadW {next : Act → World → Prop} {s d b : Nat} {ty : TypeId} {pos : String} {af : Array Edge} {Q : Exit → Act → World → Prop} {a : Act} {X : World} {vs : List Value} (hl : vs.length = 12)
    (h1 : a.eval (.tmp s) = .pointer (some ⟨b, 0, none⟩)) (k1 : ∀ i v, vs[i]? = some v → X.cell? ⟨b, i, none⟩ = some v)
    (K : next (a.put (some d) (.agg vs.toArray)) X) :
    Oper.wp Tryz.prog { dst := some d, op := .load 38 (.tmp s), type := ty, pos := pos, after := af, guard := none } a X next Q :=
  operwp_loadAll Tryz.underlying38 (by rw [hl]; exact evI_size) h1 k1 K
theorem evI_loadG {ops : Array Oper} {rest : List Oper} {s d b : Nat} {ty : TypeId} {pos : String} {af : Array Edge} {gd : Option (Nat × Bool)} {Q : Exit → Act → World → Prop} {a : Act} {X : World} {vs : List Value} (hl : vs.length = 12)
    (h1 : a.eval (.tmp s) = .pointer (some ⟨b, 0, none⟩)) (hw : Region.wanted { dst := some d, op := .load 38 (.tmp s), type := ty, pos := pos, after := af, guard := gd } (yielded ops a.tmps) = true) (k1 : ∀ i v, vs[i]? = some v → X.cell? ⟨b, i, none⟩ = some v)
    (K : wpList Tryz.prog ops Q rest (a.put (some d) (.agg vs.toArray)) X) :
    wpList Tryz.prog ops Q ({ dst := some d, op := .load 38 (.tmp s), type := ty, pos := pos, after := af, guard := gd } :: rest) a X :=
  wpList_loadAllG hw Tryz.underlying38 (by rw [hl]; exact evI_size) h1 k1 K
theorem evI_loadAt {ops : Array Oper} {rest : List Oper} {s d b off : Nat} {ty : TypeId} {pos : String} {af : Array Edge} {Q : Exit → Act → World → Prop} {a : Act} {X : World} {vs us : List Value} (hl : us.length = 12)
    (h1 : a.eval (.tmp s) = .pointer (some ⟨b, off, none⟩)) (hu : (vs.drop off).take us.length = us) (k1 : ∀ i v, vs[i]? = some v → X.cell? ⟨b, i, none⟩ = some v)
    (K : wpList Tryz.prog ops Q rest (a.put (some d) (.agg us.toArray)) X) :
    wpList Tryz.prog ops Q ({ dst := some d, op := .load 38 (.tmp s), type := ty, pos := pos, after := af, guard := none } :: rest) a X :=
  wpList_loadSub Tryz.underlying38 (by rw [hl]; exact evI_size) h1 k1 hu K
theorem evI_store {next : Act → World → Prop} {s d : Nat} {ty : TypeId} {pos : String} {af : Array Edge} {Q : Exit → Act → World → Prop} {a : Act} {X : World} {c c' : Array Value} (hl : c'.size = 12) (hl2 : c.size = 12) (one : c'.toList.all (·.oneCell') = true)
    (h1 : a.eval (.tmp s) = .pointer (some ⟨X.heap.size, 0, none⟩)) (h2 : a.eval (.tmp d) = .agg c')
    (K : next (a.put none undef) (X.alloc (.cells c' 38))) :
    Oper.wp Tryz.prog { dst := none, op := .store 38 (.tmp s) (.tmp d), type := ty, pos := pos, after := af, guard := none } a (X.alloc (.cells c 38)) next Q :=
  operwp_storeNew (by rw [hl]; exact evI_size) (by rw [hl, hl2]) (by rw [← Array.all_toList]; exact one) h1 h2 K
theorem evI_put {ops : Array Oper} {rest : List Oper} {s d : Nat} {ty : TypeId} {pos : String} {af : Array Edge} {Q : Exit → Act → World → Prop} {a : Act} {X : World} {b : Nat} {zs vs : List Value} (hl : vs.length = 12) (hl2 : zs.length = 12) (one : vs.all (·.oneCell') = true)
    (h1 : a.eval (.tmp s) = .pointer (some ⟨b, 0, none⟩)) (h2 : a.eval (.tmp d) = .agg vs.toArray)
    (k2 : ∀ i v, zs[i]? = some v → X.cell? ⟨b, i, none⟩ = some v) (f2 : ∀ o, X.frozen? ⟨b, o, none⟩ = false)
    (K : wpList Tryz.prog ops Q rest (a.put none undef) (putAll X b 0 vs)) :
    wpList Tryz.prog ops Q ({ dst := none, op := .store 38 (.tmp s) (.tmp d), type := ty, pos := pos, after := af, guard := none } :: rest) a X :=
  wpList_storeBox (c' := vs.toArray) (by rw [List.size_toArray, hl]; exact evI_size) (by rw [List.size_toArray, hl, hl2]) one h1 h2 k2 f2 K
end Go.Proofs.YthiiaefdobpjhaaGreatDoor
/-
  The law of EventFault, over contracts.
-/
namespace Go.Proofs.YthiiaefdobpjhaaGreatDoor
open Go.ChangeShapes Go.WideShapes Go.ChangeAt Go.RowKit
set_option linter.unusedSimpArgs false in
set_option maxRecDepth 100000 in
set_option maxHeartbeats 32000000 in
theorem walk_Evt (w : World) (kd ei dr : Int) (qm qh qp : ByteArray) (qa : Option Addr) (qn qc : Nat) (rs : Int) (pa : Option Addr) (pn pc : Nat) (pb : Option Addr) (bn bc : Nat) (tx : ByteArray) (hd : Bool) (cv : Int) (z1 : Int) (CA1 : Nat → Nat → Nat → Nat → Nat → World → Prop) (HZ1 : Hid (∀ X, Below w.heap.size w X → Calls Tryz.prog 4 #[.agg #[.int .i64 kd, .int .i64 ei, .int .i64 dr, .string qm, .string qh, .string qp, .slice qa qn qc, .int .i64 rs, .slice pa pn pc, .slice pb bn bc, .string tx, .bool hd], .int .i64 1048576] X fun e w' => e = .returned (.int .i64 z1) ∧ Below X.heap.size X w'))
    (HT1 : Hid (¬ z1 < 0 → ∀ X, Below w.heap.size w X → Calls Tryz.prog 6 #[.agg #[.int .i64 kd, .int .i64 ei, .int .i64 dr, .string qm, .string qh, .string qp, .slice qa qn qc, .int .i64 rs, .slice pa pn pc, .slice pb bn bc, .string tx, .bool hd]] X fun e w' => (∃ (K1 : Nat) (G1 : Nat) (D1 : Nat), e = .returned (.agg #[.int .i64 kd, .int .i64 ei, .int .i64 dr, .string qm, .string qh, .string qp, .slice (some ⟨K1, 0, none⟩) qn qn, .int .i64 rs, .slice (some ⟨G1, 0, none⟩) pn pn, .slice (some ⟨D1, 0, none⟩) bn bn, .string tx, .bool hd]) ∧ At X.heap.size w'.heap.size (CA1 K1 G1 D1) w') ∧ Below X.heap.size X w'))
    (HQ1 : Hid (¬ z1 < 0 → ∀ X la ha lb hb (K1x : Nat) (G1x : Nat) (D1x : Nat) (K1y : Nat) (G1y : Nat) (D1y : Nat), At la ha (CA1 K1x G1x D1x) X → At lb hb (CA1 K1y G1y D1y) X → Calls Tryz.prog 8 #[.agg #[.int .i64 kd, .int .i64 ei, .int .i64 dr, .string qm, .string qh, .string qp, .slice (some ⟨K1x, 0, none⟩) qn qn, .int .i64 rs, .slice (some ⟨G1x, 0, none⟩) pn pn, .slice (some ⟨D1x, 0, none⟩) bn bn, .string tx, .bool hd], .agg #[.int .i64 kd, .int .i64 ei, .int .i64 dr, .string qm, .string qh, .string qp, .slice (some ⟨K1y, 0, none⟩) qn qn, .int .i64 rs, .slice (some ⟨G1y, 0, none⟩) pn pn, .slice (some ⟨D1y, 0, none⟩) bn bn, .string tx, .bool hd]] X fun e w' => e = .returned (.bool true) ∧ Below X.heap.size X w'))
    (HF : Hid (¬ z1 < 0 → ∀ X l1 h1 (K1 : Nat) (G1 : Nat) (D1 : Nat), Below w.heap.size w X → At l1 h1 (CA1 K1 G1 D1) X → Calls Tryz.prog 5 #[.agg #[.int .i64 kd, .int .i64 ei, .int .i64 dr, .string qm, .string qh, .string qp, .slice (some ⟨K1, 0, none⟩) qn qn, .int .i64 rs, .slice (some ⟨G1, 0, none⟩) pn pn, .slice (some ⟨D1, 0, none⟩) bn bn, .string tx, .bool hd]] X fun e w' => e = .returned (.int .i64 cv) ∧ Below X.heap.size X w'))
    (HG : Hid (¬ z1 < 0 → ∀ X l1 h1 (K1 : Nat) (G1 : Nat) (D1 : Nat), Below w.heap.size w X → At l1 h1 (CA1 K1 G1 D1) X → Calls Tryz.prog 7 #[.agg #[.int .i64 kd, .int .i64 ei, .int .i64 dr, .string qm, .string qh, .string qp, .slice (some ⟨K1, 0, none⟩) qn qn, .int .i64 rs, .slice (some ⟨G1, 0, none⟩) pn pn, .slice (some ⟨D1, 0, none⟩) bn bn, .string tx, .bool hd]] X fun e w' => e = .returned (.int .i64 cv) ∧ Below X.heap.size X w')) :
    Calls Tryz.prog 3 #[.agg #[.int .i64 kd, .int .i64 ei, .int .i64 dr, .string qm, .string qh, .string qp, .slice qa qn qc, .int .i64 rs, .slice pa pn pc, .slice pb bn bc, .string tx, .bool hd]] w fun e w' => e = .returned (.bool true) ∧ Below w.heap.size w w' := by
  obtain ⟨W, hW⟩ : ∃ W, W = (w.alloc (.cells #[.int .i64 kd, .int .i64 ei, .int .i64 dr, .string qm, .string qh, .string qp, .slice qa qn qc, .int .i64 rs, .slice pa pn pc, .slice pb bn bc, .string tx, .bool hd] 29)) := ⟨_, rfl⟩
  have HW : Hid (W = (w.alloc (.cells #[.int .i64 kd, .int .i64 ei, .int .i64 dr, .string qm, .string qh, .string qp, .slice qa qn qc, .int .i64 rs, .slice pa pn pc, .slice pb bn bc, .string tx, .bool hd] 29))) := hW
  have KW : Hid (Below w.heap.size w W) := by rw [hW]; exact ((Below.refl _ _).alloc (Nat.le_refl _) _)
  have SW : Hid (w.heap.size + 1 ≤ W.heap.size) := by rw [hW]; show _ ≤ _; simp
  have FA1_0 : Hid (At w.heap.size (w.heap.size + 1) (Bx w.heap.size [.int .i64 kd, .int .i64 ei, .int .i64 dr, .string qm, .string qh, .string qp, .slice qa qn qc, .int .i64 rs, .slice pa pn pc, .slice pb bn bc, .string tx, .bool hd]) W) := by rw [hW]; exact Bx.newAt rfl [.int .i64 kd, .int .i64 ei, .int .i64 dr, .string qm, .string qh, .string qp, .slice qa qn qc, .int .i64 rs, .slice pa pn pc, .slice pb bn bc, .string tx, .bool hd] _
  clear hW
  go_enter Tryz.func3, Tryz.ntmps3
  go_upto_region 2 with fail
  rw [← HW.out]
  clear HW
  have LFA1_0 := hidL FA1_0.out.val.1
  go_wp2_with (first | ((with_reducible refine evL_load (b := w.heap.size) (vs := [.int .i64 kd, .int .i64 ei, .int .i64 dr, .string qm, .string qh, .string qp, .slice qa qn qc, .int .i64 rs, .slice pa pn pc, .slice pb bn bc, .string tx, .bool hd]) ?_ ?_ LFA1_0.out ?_); exact rfl; exact rfl))
  clear LFA1_0
  refine (HZ1.out  _ KW.out).mono ?_
  rintro e0 w1 ⟨rfl, hb⟩
  have K2 : Hid (Below w.heap.size w w1) := KW.out.trans (hb.mono KW.out.size)
  have F3 : Hid (At w.heap.size (w.heap.size + 1) (Bx w.heap.size [.int .i64 kd, .int .i64 ei, .int .i64 dr, .string qm, .string qh, .string qp, .slice qa qn qc, .int .i64 rs, .slice pa pn pc, .slice pb bn bc, .string tx, .bool hd]) w1) := FA1_0.out.keep hb
  clear KW FA1_0 hb
  clear HZ1
  by_cases cz1 : z1 < 0
  · clear HT1 HQ1 HF HG F3 SW
    go_wp2_with fail
    go_ret
    exact ⟨rfl, K2.out⟩
  replace HT1 := hidL (HT1.out (by omega))
  replace HQ1 := hidL (HQ1.out (by omega))
  replace HF := hidL (HF.out (by omega))
  replace HG := hidL (HG.out (by omega))
  have LF3 := hidL F3.out.val.1
  go_wp2_with (first | ((with_reducible refine evL_load (b := w.heap.size) (vs := [.int .i64 kd, .int .i64 ei, .int .i64 dr, .string qm, .string qh, .string qp, .slice qa qn qc, .int .i64 rs, .slice pa pn pc, .slice pb bn bc, .string tx, .bool hd]) ?_ ?_ LF3.out ?_); exact rfl; exact rfl))
  clear LF3
  refine (HT1.out _ K2.out).mono ?_
  rintro e0 w4 ⟨⟨K1s, G1s, D1s, rfl, ca⟩, hb⟩
  have K5 : Hid (Below w.heap.size w w4) := K2.out.trans (hb.mono K2.out.size)
  have F6 : Hid (At w.heap.size (w.heap.size + 1) (Bx w.heap.size [.int .i64 kd, .int .i64 ei, .int .i64 dr, .string qm, .string qh, .string qp, .slice qa qn qc, .int .i64 rs, .slice pa pn pc, .slice pb bn bc, .string tx, .bool hd]) w4) := F3.out.keep hb
  clear K2 F3 hb
  have CA_s : Hid (At w1.heap.size w4.heap.size (CA1 K1s G1s D1s) w4) := ca
  clear ca
  go_wp2_with fail
  refine (HF.out _ _ _ _ _ _ K5.out CA_s.out).mono ?_
  rintro e0 w7 ⟨rfl, hb⟩
  have K8 : Hid (Below w.heap.size w w7) := K5.out.trans (hb.mono K5.out.size)
  have F9 : Hid (At w.heap.size (w.heap.size + 1) (Bx w.heap.size [.int .i64 kd, .int .i64 ei, .int .i64 dr, .string qm, .string qh, .string qp, .slice qa qn qc, .int .i64 rs, .slice pa pn pc, .slice pb bn bc, .string tx, .bool hd]) w7) := F6.out.keep hb
  clear K5 F6 hb
  clear CA_s
  clear HF
  have LF9 := hidL F9.out.val.1
  go_wp2_with (first | ((with_reducible refine evL_load (b := w.heap.size) (vs := [.int .i64 kd, .int .i64 ei, .int .i64 dr, .string qm, .string qh, .string qp, .slice qa qn qc, .int .i64 rs, .slice pa pn pc, .slice pb bn bc, .string tx, .bool hd]) ?_ ?_ LF9.out ?_); exact rfl; exact rfl))
  clear LF9
  refine (HT1.out _ K8.out).mono ?_
  rintro e0 w10 ⟨⟨K1x1, G1x1, D1x1, rfl, ca⟩, hb⟩
  obtain ⟨l11, hl11⟩ : ∃ n, w7.heap.size = n := ⟨_, rfl⟩
  obtain ⟨h12, hh12⟩ : ∃ n, w10.heap.size = n := ⟨_, rfl⟩
  have O13 : Hid ((w.heap.size + 1) ≤ l11 ∧ w.heap.size ≤ l11 ∧ l11 ≤ h12) := ⟨(by rw [← hl11]; exact F9.out.le), (by rw [← hl11]; exact K8.out.size), (by rw [← hl11, ← hh12]; exact hb.size)⟩
  have F14 : Hid (At l11 h12 (CA1 K1x1 G1x1 D1x1) w10) := by rw [← hl11, ← hh12]; exact ca
  clear ca hl11 hh12
  have K15 : Hid (Below w.heap.size w w10) := K8.out.trans (hb.mono K8.out.size)
  have F16 : Hid (At w.heap.size (w.heap.size + 1) (Bx w.heap.size [.int .i64 kd, .int .i64 ei, .int .i64 dr, .string qm, .string qh, .string qp, .slice qa qn qc, .int .i64 rs, .slice pa pn pc, .slice pb bn bc, .string tx, .bool hd]) w10) := F9.out.keep hb
  clear K8 F9 hb
  obtain ⟨V17, hV17⟩ : ∃ V, V = w10.alloc (.cells #[.int .i64 kd, .int .i64 ei, .int .i64 dr, .string qm, .string qh, .string qp, .slice (some ⟨K1x1, 0, none⟩) qn qn, .int .i64 rs, .slice (some ⟨G1x1, 0, none⟩) pn pn, .slice (some ⟨D1x1, 0, none⟩) bn bn, .string tx, .bool hd] 38) := ⟨_, rfl⟩
  have HV17 : Hid (V17 = w10.alloc (.cells #[.int .i64 kd, .int .i64 ei, .int .i64 dr, .string qm, .string qh, .string qp, .slice (some ⟨K1x1, 0, none⟩) qn qn, .int .i64 rs, .slice (some ⟨G1x1, 0, none⟩) pn pn, .slice (some ⟨D1x1, 0, none⟩) bn bn, .string tx, .bool hd] 38)) := hV17
  have ab : Below w10.heap.size w10 V17 := by rw [hV17]; exact (Below.refl _ _).alloc (Nat.le_refl _) _
  have F18 : Hid (At w10.heap.size (w10.heap.size + 1) (Bx w10.heap.size [.int .i64 kd, .int .i64 ei, .int .i64 dr, .string qm, .string qh, .string qp, .slice (some ⟨K1x1, 0, none⟩) qn qn, .int .i64 rs, .slice (some ⟨G1x1, 0, none⟩) pn pn, .slice (some ⟨D1x1, 0, none⟩) bn bn, .string tx, .bool hd]) V17) := by rw [hV17]; exact Bx.new _ _ _
  have O19 : Hid ((w.heap.size + 1) ≤ w10.heap.size ∧ h12 ≤ w10.heap.size ∧ w.heap.size ≤ w10.heap.size) := ⟨F16.out.le, F14.out.le, K15.out.size⟩
  have K20 : Hid (Below w.heap.size w V17) := K15.out.trans (ab.mono K15.out.size)
  have F21 : Hid (At w.heap.size (w.heap.size + 1) (Bx w.heap.size [.int .i64 kd, .int .i64 ei, .int .i64 dr, .string qm, .string qh, .string qp, .slice qa qn qc, .int .i64 rs, .slice pa pn pc, .slice pb bn bc, .string tx, .bool hd]) V17) := F16.out.keep ab
  have F22 : Hid (At l11 h12 (CA1 K1x1 G1x1 D1x1) V17) := F14.out.keep ab
  clear K15 F16 F14
  clear ab hV17
  have LF21 := hidL F21.out.val.1
  have LF18 := hidL F18.out.val.1
  go_upto_region 7 with (first | ((with_reducible refine evL_load (b := w.heap.size) (vs := [.int .i64 kd, .int .i64 ei, .int .i64 dr, .string qm, .string qh, .string qp, .slice qa qn qc, .int .i64 rs, .slice pa pn pc, .slice pb bn bc, .string tx, .bool hd]) ?_ ?_ LF21.out ?_); exact rfl; exact rfl) | ((with_reducible refine evI_load (b := w10.heap.size) (vs := [.int .i64 kd, .int .i64 ei, .int .i64 dr, .string qm, .string qh, .string qp, .slice (some ⟨K1x1, 0, none⟩) qn qn, .int .i64 rs, .slice (some ⟨G1x1, 0, none⟩) pn pn, .slice (some ⟨D1x1, 0, none⟩) bn bn, .string tx, .bool hd]) ?_ ?_ LF18.out ?_); exact rfl; exact rfl) | ((with_reducible refine evI_store (c' := #[.int .i64 kd, .int .i64 ei, .int .i64 dr, .string qm, .string qh, .string qp, .slice (some ⟨K1x1, 0, none⟩) qn qn, .int .i64 rs, .slice (some ⟨G1x1, 0, none⟩) pn pn, .slice (some ⟨D1x1, 0, none⟩) bn bn, .string tx, .bool hd]) ?_ ?_ ?_ ?_ ?_ ?_); exact rfl; exact rfl; exact rfl; exact rfl; exact rfl))
  clear LF21 LF18
  rw [← HV17.out]
  clear HV17
  generalize w10.heap.size = x23 at *
  have LF21 := hidL F21.out.val.1
  have LF18 := hidL F18.out.val.1
  go_wp2_with (first | ((with_reducible refine evL_load (b := w.heap.size) (vs := [.int .i64 kd, .int .i64 ei, .int .i64 dr, .string qm, .string qh, .string qp, .slice qa qn qc, .int .i64 rs, .slice pa pn pc, .slice pb bn bc, .string tx, .bool hd]) ?_ ?_ LF21.out ?_); exact rfl; exact rfl) | ((with_reducible refine evI_load (b := x23) (vs := [.int .i64 kd, .int .i64 ei, .int .i64 dr, .string qm, .string qh, .string qp, .slice (some ⟨K1x1, 0, none⟩) qn qn, .int .i64 rs, .slice (some ⟨G1x1, 0, none⟩) pn pn, .slice (some ⟨D1x1, 0, none⟩) bn bn, .string tx, .bool hd]) ?_ ?_ LF18.out ?_); exact rfl; exact rfl))
  clear LF21 LF18
  refine (HG.out _ _ _ _ _ _ K20.out F22.out).mono ?_
  rintro e0 w24 ⟨rfl, hb⟩
  have K25 : Hid (Below w.heap.size w w24) := K20.out.trans (hb.mono K20.out.size)
  have F26 : Hid (At w.heap.size (w.heap.size + 1) (Bx w.heap.size [.int .i64 kd, .int .i64 ei, .int .i64 dr, .string qm, .string qh, .string qp, .slice qa qn qc, .int .i64 rs, .slice pa pn pc, .slice pb bn bc, .string tx, .bool hd]) w24) := F21.out.keep hb
  have F27 : Hid (At l11 h12 (CA1 K1x1 G1x1 D1x1) w24) := F22.out.keep hb
  have F28 : Hid (At x23 (x23 + 1) (Bx x23 [.int .i64 kd, .int .i64 ei, .int .i64 dr, .string qm, .string qh, .string qp, .slice (some ⟨K1x1, 0, none⟩) qn qn, .int .i64 rs, .slice (some ⟨G1x1, 0, none⟩) pn pn, .slice (some ⟨D1x1, 0, none⟩) bn bn, .string tx, .bool hd]) w24) := F18.out.keep hb
  clear K20 F21 F22 F18 hb
  clear HG
  have HKS : Hid (∀ X, Below w24.heap.size w24 X → X.rangeAt w.heap.size 0 [.int .i64 kd, .int .i64 ei, .int .i64 dr, .string qm, .string qh, .string qp, .slice qa qn qc, .int .i64 rs, .slice pa pn pc, .slice pb bn bc, .string tx, .bool hd] ∧ X.rangeAt x23 0 [.int .i64 kd, .int .i64 ei, .int .i64 dr, .string qm, .string qh, .string qp, .slice (some ⟨K1x1, 0, none⟩) qn qn, .int .i64 rs, .slice (some ⟨G1x1, 0, none⟩) pn pn, .slice (some ⟨D1x1, 0, none⟩) bn bn, .string tx, .bool hd]) := fun X hX => ⟨range_of (F26.out.keep hX).val.1, range_of (F28.out.keep hX).val.1⟩
  have B0 : Hid (Below w24.heap.size w24 w24.drew) := (Below.refl _ _).drew
  have KB0 : Hid (Below w.heap.size w w24.drew) := K25.out.trans (B0.out.mono K25.out.size)
  go_upto_region 10 with fail
  refine wp_region_held_drew (S := fun X => X.rangeAt w.heap.size 0 [.int .i64 kd, .int .i64 ei, .int .i64 dr, .string qm, .string qh, .string qp, .slice qa qn qc, .int .i64 rs, .slice pa pn pc, .slice pb bn bc, .string tx, .bool hd] ∧ X.rangeAt x23 0 [.int .i64 kd, .int .i64 ei, .int .i64 dr, .string qm, .string qh, .string qp, .slice (some ⟨K1x1, 0, none⟩) qn qn, .int .i64 rs, .slice (some ⟨G1x1, 0, none⟩) pn pn, .slice (some ⟨D1x1, 0, none⟩) bn bn, .string tx, .bool hd]) (by kernel_rfl) ?_ (fun hHeld => ?_)
  · exact HKS.out _ B0.out
  refine' wpAnyH_take (i := 0) (oi := _) (v := _) rfl (by kernel_rfl) (by kernel_rfl) (by kernel_rfl) (fun _ _ _ h => h) (yieldsIf_load_mid (by rfl) _ _ rfl (x23) 0 rfl _ _ (fun _ h => h.2) Tryz.underlying38 rfl evI_size) hHeld ?_
  (try simp only [Act.put, List.setIfInBounds_toArray, List.set_cons_zero, List.set_cons_succ])
  refine' wpAnyH_take (i := 1) (oi := _) (v := _) rfl (by kernel_rfl) (by kernel_rfl) (by kernel_rfl) (fun _ _ _ h => h) (yieldsIf_load_mid (by rfl) _ _ rfl (w.heap.size) 0 rfl _ _ (fun _ h => h.1) Tryz.underlying29 rfl evL_size) hHeld ?_
  (try simp only [Act.put, List.setIfInBounds_toArray, List.set_cons_zero, List.set_cons_succ])
  refine wpAnyH_ready (rs := [2]) (by kernel_rfl) (by simp) ?_
  refine AllReadyH.cons (o := _) rfl (fun K hK => ?_) AllReadyH.nil
  go_simp
  (with_reducible refine (HT1.out w24.drew KB0.out).mono ?_)
  rintro e0 w29 ⟨⟨K1t, G1t, D1t, rfl, ca⟩, hb⟩
  have BA : Hid (Below w24.heap.size w24 w29) := B0.out.trans (hb.mono B0.out.size)
  have MA := hidL ca
  clear ca hb
  go_wp2_with fail
  refine hK.out _ _ ?_ (fun hHeld => ?_)
  · exact HKS.out _ BA.out
  clear hK
  (try simp only [Act.put, List.setIfInBounds_toArray, List.set_cons_zero, List.set_cons_succ])
  refine wpAnyH_ready (rs := [3]) (by kernel_rfl) (by simp) ?_
  refine AllReadyH.cons (o := _) rfl (fun K hK => ?_) AllReadyH.nil
  go_simp
  (with_reducible refine (HQ1.out w29 _ _ _ _ _ _ _ _ _ _ (F27.out.keep BA.out) MA.out).mono ?_)
  rintro e0 w30 ⟨rfl, hb⟩
  have BB : Hid (Below w24.heap.size w24 w30) := BA.out.trans (hb.mono BA.out.size)
  clear hb
  go_wp2_with fail
  refine hK.out _ _ ?_ (fun hHeld => ?_)
  · exact HKS.out _ BB.out
  clear hK
  (try simp only [Act.put, List.setIfInBounds_toArray, List.set_cons_zero, List.set_cons_succ])
  refine wpAnyH_ready (rs := [4]) (by kernel_rfl) (by simp) ?_
  refine AllReadyH.cons (o := _) rfl (fun K hK => ?_) AllReadyH.nil
  go_simp
  refine hK.out _ _ ?_ (fun hHeld => ?_)
  · exact HKS.out _ BB.out
  clear hK
  (try simp only [Act.put, List.setIfInBounds_toArray, List.set_cons_zero, List.set_cons_succ])
  refine wpAnyH_done (by kernel_rfl) ?_ _
  clear hHeld
  have K31 : Hid (Below w.heap.size w w30) := K25.out.trans (BB.out.mono K25.out.size)
  have F32 : Hid (At w.heap.size (w.heap.size + 1) (Bx w.heap.size [.int .i64 kd, .int .i64 ei, .int .i64 dr, .string qm, .string qh, .string qp, .slice qa qn qc, .int .i64 rs, .slice pa pn pc, .slice pb bn bc, .string tx, .bool hd]) w30) := F26.out.keep BB.out
  have F33 : Hid (At l11 h12 (CA1 K1x1 G1x1 D1x1) w30) := F27.out.keep BB.out
  have F34 : Hid (At x23 (x23 + 1) (Bx x23 [.int .i64 kd, .int .i64 ei, .int .i64 dr, .string qm, .string qh, .string qp, .slice (some ⟨K1x1, 0, none⟩) qn qn, .int .i64 rs, .slice (some ⟨G1x1, 0, none⟩) pn pn, .slice (some ⟨D1x1, 0, none⟩) bn bn, .string tx, .bool hd]) w30) := F28.out.keep BB.out
  clear K25 F26 F27 F28
  clear HKS B0 BA BB MA KB0
  clear HQ1
  go_wp2_with fail
  go_ret
  exact ⟨rfl, K31.out⟩
end Go.Proofs.YthiiaefdobpjhaaGreatDoor
/-
  Facts that hang on stretches of blocks, one behind the other.
-/
namespace Go.Proofs.YthiiaefdobpjhaaGreatDoor
open Go.ChangeShapes Go.WideShapes Go.ChangeAt Go.RowKit
/-- What hangs on a stretch within. -/
def Wide (A : Nat → Nat → World → Prop) (lo hi : Nat) (X : World) : Prop := ∃ l h, lo ≤ l ∧ l ≤ h ∧ h ≤ hi ∧ At l h A X
/-- Both, one behind the other. -/
def Bef (A B : Nat → Nat → World → Prop) (lo hi : Nat) (X : World) : Prop := ∃ l h m n, lo ≤ l ∧ l ≤ h ∧ h ≤ m ∧ m ≤ n ∧ n ≤ hi ∧ At l h A X ∧ At m n B X
theorem At.mv {l h lo hi : Nat} {A : Nat → Nat → World → Prop} {X X' : World} (k : At l h A X) (h0 : lo ≤ l) (h1 : h ≤ hi) (s : X.heap.size ≤ X'.heap.size) (hc : ∀ b o, lo ≤ b → b < hi → X'.cell? ⟨b, o, none⟩ = X.cell? ⟨b, o, none⟩ ∧ X'.frozen? ⟨b, o, none⟩ = X.frozen? ⟨b, o, none⟩) : At l h A X' :=
  ⟨Nat.le_trans k.le s, k.dep, k.dep X X' k.le s (fun b o h2 h3 => hc b o (Nat.le_trans h0 h2) (Nat.lt_of_lt_of_le h3 h1)) k.val⟩
theorem Wide.dep (A : Nat → Nat → World → Prop) (lo hi : Nat) : Dep lo hi (Wide A lo hi) := fun X X' _ h2 hc k => by
  obtain ⟨l, h, a, b, c, d⟩ := k
  exact ⟨l, h, a, b, c, d.mv a c h2 hc⟩
theorem Bef.dep (A B : Nat → Nat → World → Prop) (lo hi : Nat) : Dep lo hi (Bef A B lo hi) := fun X X' _ h2 hc k => by
  obtain ⟨l, h, m, n, a, b, c, d, e, f, g⟩ := k
  exact ⟨l, h, m, n, a, b, c, d, e, f.mv a (by omega) h2 hc, g.mv (by omega) e h2 hc⟩
theorem Wide.at {A : Nat → Nat → World → Prop} {l h : Nat} {X : World} (k : At l h A X) (hl : l ≤ h) : At l h (Wide A) X := ⟨k.le, Wide.dep _ _ _, l, h, Nat.le_refl _, hl, Nat.le_refl _, k⟩
theorem Bef.at {A B : Nat → Nat → World → Prop} {l h m n : Nat} {X : World} (k : At l h A X) (j : At m n B X) (hl : l ≤ h ∧ h ≤ m ∧ m ≤ n) : At l n (Bef A B) X := ⟨j.le, Bef.dep _ _ _ _, l, h, m, n, Nat.le_refl _, hl.1, hl.2.1, hl.2.2, Nat.le_refl _, k, j⟩
theorem At.wideW {A : Nat → Nat → World → Prop} {l h lo hi : Nat} {X : World} (k : At l h (Wide A) X) (h0 : lo ≤ l) (h1 : h ≤ hi) (h2 : hi ≤ X.heap.size) : At lo hi (Wide A) X := by
  obtain ⟨a, b, c, d, e, f⟩ := k.val
  exact ⟨h2, Wide.dep _ _ _, a, b, by omega, d, by omega, f⟩
theorem At.wideB {A B : Nat → Nat → World → Prop} {l h lo hi : Nat} {X : World} (k : At l h (Bef A B) X) (h0 : lo ≤ l) (h1 : h ≤ hi) (h2 : hi ≤ X.heap.size) : At lo hi (Bef A B) X := by
  obtain ⟨a, b, c, d, e, f, g, i, j, m, n⟩ := k.val
  exact ⟨h2, Bef.dep _ _ _ _, a, b, c, d, by omega, f, g, i, by omega, m, n⟩
end Go.Proofs.YthiiaefdobpjhaaGreatDoor
/-
  Head lines in memory; the laws' own helpers over them.
-/
namespace Go.Proofs.YthiiaefdobpjhaaGreatDoor
open Go.ChangeShapes Go.WideShapes Go.ChangeAt Go.RowKit
/-- A head line: its name and its value. -/
structure Hdr where
  name : ByteArray
  value : ByteArray
/-- The lines l lie in block b from off on, two cells each. -/
def HeadsAt (w : World) (b off : Nat) (l : List Hdr) : Prop :=
  ∀ (i : Nat) r, l[i]? = some r → w.cell? ⟨b, off + i * 2, none⟩ = some (.string r.name) ∧ w.cell? ⟨b, off + i * 2 + 1, none⟩ = some (.string r.value)
def hdrV (r : Hdr) : Value := .agg #[.string r.name, .string r.value]
def szH (left : Int) (r : Hdr) : Int := if left - (r.name.size : Int) < 0 then -1 else if left - (r.name.size : Int) - (r.value.size : Int) < 0 then -1 else left - (r.name.size : Int) - (r.value.size : Int)
set_option maxHeartbeats 400000 in
theorem szHeader_any (r : Hdr) (left : Int) (w : World) (h0 : 0 ≤ left) (h1 : left ≤ 1048576) (z1 : r.name.size ≤ maxLen) (z2 : r.value.size ≤ maxLen) :
    Calls Tryz.prog 39 #[.agg #[.string r.name, .string r.value], .int .i64 left] w fun e w' => e = .returned (.int .i64 (szH left r)) ∧ Below w.heap.size w w' := by
  unfold maxLen at z1 z2
  obtain ⟨n, v⟩ := r
  simp only at z1 z2 ⊢
  by_cases c1 : left - (n.size : Int) < 0
  · have HE : Hid (szH left ⟨n, v⟩ = -1) := by show _ = _; simp [szH, c1]
    go_enter Tryz.func39, Tryz.ntmps39
    go_wp2
    go_ret
    exact ⟨ret_int HE.out.symm, (Below.refl _ _).alloc (Nat.le_refl _) _⟩
  · by_cases c2 : left - (n.size : Int) - (v.size : Int) < 0
    · have HE : Hid (szH left ⟨n, v⟩ = -1) := by show _ = _; simp [szH, c1, c2]
      go_enter Tryz.func39, Tryz.ntmps39
      go_wp2
      go_ret
      exact ⟨ret_int HE.out.symm, (Below.refl _ _).alloc (Nat.le_refl _) _⟩
    · have HE : Hid (szH left ⟨n, v⟩ = left - (n.size : Int) - (v.size : Int)) := by show _ = _; simp [szH, c1, c2]
      go_enter Tryz.func39, Tryz.ntmps39
      go_wp2
      go_ret
      exact ⟨ret_int HE.out.symm, (Below.refl _ _).alloc (Nat.le_refl _) _⟩
set_option maxHeartbeats 400000 in
theorem toHeader_any (r : Hdr) (w : World) :
    Calls Tryz.prog 45 #[.agg #[.string r.name, .string r.value]] w fun e w' => e = .returned (.agg #[.string r.name, .string r.value]) ∧ Below w.heap.size w w' := by
  obtain ⟨n, v⟩ := r
  simp only
  go_enter Tryz.func45, Tryz.ntmps45
  go_wp2
  exact bodyPost_ret (v := .agg #[.string n, .string v]) (by simp [results, Tryz.results45, go_sem]) rfl ⟨rfl, (((Below.refl _ _).alloc (Nat.le_refl _) _).alloc (by simp) _).alloc (by simp; omega) _⟩
set_option maxHeartbeats 400000 in
theorem eqHeader_same (r : Hdr) (w : World) :
    Calls Tryz.prog 51 #[.agg #[.string r.name, .string r.value], .agg #[.string r.name, .string r.value]] w fun e w' => e = .returned (.bool true) ∧ Below w.heap.size w w' := by
  obtain ⟨n, v⟩ := r
  simp only
  go_enter Tryz.func51, Tryz.ntmps51
  go_wp2
  go_ret
  exact ⟨rfl, ((Below.refl _ _).alloc (Nat.le_refl _) _).alloc (by simp) _⟩
/-- How much room is left behind the items; -1: none. -/
def szHs (left : Int) : List Hdr → Int
  | [] => left
  | r :: l => if szH left r < 0 then -1 else szHs (szH left r) l
def szHL (left : Int) (l : List Hdr) : Int := if left - (l.length : Int) < 0 then -1 else szHs (left - (l.length : Int)) l
def SmallHdrs (l : List Hdr) : Prop := ∀ (i : Nat) r, l[i]? = some r → r.name.size ≤ maxLen ∧ r.value.size ≤ maxLen
theorem HeadsAt.keep {w w' : World} {b off : Nat} {l : List Hdr} (h : HeadsAt w b off l) (hb : Below w.heap.size w w') : HeadsAt w' b off l := by
  intro i r hr
  obtain ⟨a1, a3⟩ := h i r hr
  exact ⟨by rw [hb.cell (block_lt_of_cell a1)]; exact a1, by rw [hb.cell (block_lt_of_cell a3)]; exact a3⟩
theorem szH_le (left : Int) (r : Hdr) : szH left r ≤ left ∨ szH left r = -1 := by
  unfold szH
  split
  · exact .inr rfl
  · split
    · exact .inr rfl
    · left; omega
theorem drop_hdr (l : List Hdr) (k : Nat) (r : Hdr) (h : l[k]? = some r) : l.drop k = r :: l.drop (k + 1) := by
  obtain ⟨hk, rfl⟩ := List.getElem?_eq_some_iff.1 h
  exact List.drop_eq_getElem_cons hk
set_option maxHeartbeats 2000000 in
theorem szHeaderS_any (w : World) (a : Option Addr) (cap : Nat) (l : List Hdr) (hl : l.length ≤ maxLen) (hi : l = [] ∨ ∃ b off, a = some ⟨b, off, none⟩ ∧ HeadsAt w b off l) (hz : SmallHdrs l) (left : Int) (h0 : 0 ≤ left) (h1 : left ≤ 1048576) :
    Calls Tryz.prog 25 #[.slice a l.length cap, .int .i64 left] w fun e w' => e = .returned (.int .i64 (szHL left l)) ∧ Below w.heap.size w w' := by
  unfold maxLen at hl
  have HI : Hid (l = [] ∨ ∃ b off, a = some ⟨b, off, none⟩ ∧ HeadsAt w b off l) := hi
  have HZ : Hid (SmallHdrs l) := hz
  clear hi hz
  generalize hn : l.length = n at *
  have HN : Hid (l.length = n) := hn
  by_cases c0 : left - (n : Int) < 0
  · have HE : Hid (szHL left l = -1) := by show _ = _; unfold szHL; rw [hn, if_pos c0]
    clear hn
    go_enter Tryz.func25, Tryz.ntmps25
    go_wp2
    go_ret
    exact ⟨ret_int HE.out.symm, Below.refl _ _⟩
  have HE : Hid (szHL left l = szHs (left - (n : Int)) l) := by show _ = _; unfold szHL; rw [hn, if_neg c0]
  have c0' : 0 ≤ left - (n : Int) := by omega
  clear hn
  go_enter Tryz.func25, Tryz.ntmps25
  go_wp2_with fail
  go_loopw [1, 5] (fun x i wr => ∃ (k : Nat) (c : Int), k ≤ n ∧ i = .int .i64 k ∧ x = .int .i64 c ∧ 0 ≤ c ∧ c ≤ 1048576 ∧ szHL left l = szHs c (l.drop k) ∧ Below w.heap.size w wr) (fun _ i _ => n - (intOf i).toNat)
  case atStart => exact ⟨0, left - (n : Int), Nat.zero_le _, rfl, rfl, c0', by omega, HE.out, Below.refl _ _⟩
  case round =>
    obtain ⟨k, c, hk, rfl, rfl, c2, c3, hs, hb⟩ := hrel
    have HS : Hid (szHL left l = szHs c (l.drop k)) := hs
    clear hs HE
    by_cases hlt : k < n
    · obtain ⟨r, hr⟩ : ∃ r, l[k]? = some r := ⟨l[k]'(by have := HN.out; omega), List.getElem?_eq_getElem _⟩
      rcases HI.out with h | ⟨b, off, rfl, hat⟩
      · subst h; simp at hr
      obtain ⟨p1, p3⟩ := (hat.keep hb) k r hr
      obtain ⟨z1, z2⟩ := HZ.out k r hr
      have HS2 : Hid (szHL left l = if szH c r < 0 then -1 else szHs (szH c r) (l.drop (k + 1))) := by
        show _ = _
        rw [HS.out, drop_hdr l k r hr, szHs]
      have HC : Hid (∀ w, Calls Tryz.prog 39 #[.agg #[.string r.name, .string r.value], .int .i64 c] w fun e w' => e = .returned (.int .i64 (szH c r)) ∧ Below w.heap.size w w') := fun w => szHeader_any r c w c2 c3 z1 z2
      have hle := szH_le c r
      have g : (k : Int) < n := by omega
      clear HS hr hat z1 z2 HI
      generalize szH c r = d at *
      generalize r.name = rn at *
      generalize r.value = rv at *
      go_wp2_with fail
      refine (HC.out _).mono ?_
      rintro e w2 ⟨rfl, hb2⟩
      have hbb : Below w.heap.size w w2 := hb.trans (hb2.mono hb.size)
      clear hb2 hb p1 p3 HC
      by_cases hd : d < 0
      · have HF : Hid (szHL left l = -1) := by show _ = _; rw [HS2.out, if_pos hd]
        clear HS2
        go_wp2_with fail
        go_ret
        exact ⟨ret_int HF.out.symm, hbb⟩
      · have HF : Hid (szHL left l = szHs d (l.drop (k + 1))) := by show _ = _; rw [HS2.out, if_neg hd]
        clear HS2
        go_wp2_with fail
        go_roundw
        case rel => exact ⟨k + 1, d, by omega, by go_num, rfl, by omega, by omega, HF.out, hbb⟩
        case measure => simp [intOf]; omega
    · have HF : Hid (szHL left l = c) := by
        show _ = _
        rw [HS.out, List.drop_of_length_le (by have := HN.out; omega), szHs]
      clear HS
      go_wp2_with fail
      go_ret
      exact ⟨ret_int HF.out.symm, hb⟩
end Go.Proofs.YthiiaefdobpjhaaGreatDoor
/-
  The laws' copy of a list of items, and their comparing of two.
-/
namespace Go.Proofs.YthiiaefdobpjhaaGreatDoor
open Go.ChangeShapes Go.WideShapes Go.ChangeAt Go.RowKit Go.Sort
/-- m cells from the head of block G on are there and may be written. -/
def HRoom (w : World) (G m : Nat) : Prop := ∀ j, j < m → (∃ u, w.cell? ⟨G, j, none⟩ = some u) ∧ w.frozen? ⟨G, j, none⟩ = false
theorem HRoom.keep {w w' : World} {G m : Nat} (h : HRoom w G m) (hb : Below w.heap.size w w') : HRoom w' G m := by
  intro j hj
  obtain ⟨⟨u, hu⟩, hf⟩ := h j hj
  exact ⟨⟨u, by rw [hb.cell (block_lt_of_cell hu)]; exact hu⟩, by rw [hb.frozen (block_lt_of_cell hu)]; exact hf⟩
theorem HRoom.set {w : World} {G m : Nat} (h : HRoom w G m) (a : Addr) (v : Value) : HRoom (w.setCell a v) G m := by
  intro j hj
  obtain ⟨⟨u, hu⟩, hf⟩ := h j hj
  refine ⟨?_, by rw [World.frozen?_setCell]; exact hf⟩
  by_cases e : a = ⟨G, j, none⟩
  · exact ⟨v, by subst e; exact World.cell?_setCell_same _ _ _ hu⟩
  · exact ⟨u, by rw [World.cell?_setCell_other _ _ _ _ e]; exact hu⟩
def put2 (w : World) (G k : Nat) (r : Hdr) : World := (w.setCell ⟨G, k * 2, none⟩ (.string r.name)).setCell ⟨G, k * 2 + 1, none⟩ (.string r.value)
theorem hoff_ne {G i j : Nat} (h : i ≠ j) : (⟨G, i, none⟩ : Addr) ≠ ⟨G, j, none⟩ := fun e => h (congrArg Addr.off e)
theorem put2_other (w : World) (G k : Nat) (r : Hdr) (j : Nat) (h0 : k * 2 ≠ j) (h1 : k * 2 + 1 ≠ j) : (put2 w G k r).cell? ⟨G, j, none⟩ = w.cell? ⟨G, j, none⟩ := by
  unfold put2
  rw [World.cell?_setCell_other _ _ _ _ (hoff_ne h1), World.cell?_setCell_other _ _ _ _ (hoff_ne h0)]
theorem HRoom.put {w : World} {G m : Nat} (h : HRoom w G m) (k : Nat) (r : Hdr) : HRoom (put2 w G k r) G m := (h.set _ _).set _ _
theorem HeadsAt.put {w : World} {G n : Nat} {l : List Hdr} {k : Nat} {r : Hdr} (h : HeadsAt w G 0 (l.take k)) (hr : l[k]? = some r) (hm : HRoom w G (n * 2)) (hk : k < n) : HeadsAt (put2 w G k r) G 0 (l.take (k + 1)) := by
  intro i q hq
  have hi : i < k + 1 := by
    have := (List.getElem?_eq_some_iff.1 hq).1
    simp at this; omega
  rw [List.getElem?_take_of_lt hi] at hq
  simp only [Nat.zero_add]
  by_cases e : i = k
  · subst e
    rw [hr] at hq
    obtain rfl := Option.some.inj hq
    obtain ⟨⟨u0, g0⟩, _⟩ := hm (i * 2) (by omega)
    obtain ⟨⟨u1, g1⟩, _⟩ := (hm.set ⟨G, i * 2, none⟩ (.string r.name)) (i * 2 + 1) (by omega)
    unfold put2
    refine ⟨?_, World.cell?_setCell_same _ _ _ g1⟩
    rw [World.cell?_setCell_other _ _ _ _ (hoff_ne (by omega))]
    exact World.cell?_setCell_same _ _ _ g0
  · have hq2 : (l.take k)[i]? = some q := by rw [List.getElem?_take_of_lt (by omega)]; exact hq
    obtain ⟨a1, a3⟩ := h i q hq2
    simp only [Nat.zero_add] at a1 a3
    exact ⟨by rw [put2_other _ _ _ _ _ (by omega) (by omega)]; exact a1, by rw [put2_other _ _ _ _ _ (by omega) (by omega)]; exact a3⟩
theorem infoHeader : (Tryz.prog.info? 73).map (fun i => (i.zero, i.size, i.bytes)) = some (some (.agg #[.string ⟨#[]⟩, .string ⟨#[]⟩]), 2, 32) := by kernel_rfl
set_option maxHeartbeats 2000000 in
theorem toHeaderS_any (w : World) (a : Option Addr) (cap : Nat) (l : List Hdr) (hl : l.length ≤ 1048576) (hi : l = [] ∨ ∃ b off, a = some ⟨b, off, none⟩ ∧ HeadsAt w b off l) :
    Calls Tryz.prog 31 #[.slice a l.length cap] w fun e w' => e = .returned (.slice (some ⟨w.heap.size, 0, none⟩) l.length l.length) ∧ HeadsAt w' w.heap.size 0 l ∧ Below w.heap.size w w' := by
  have HI : Hid (l = [] ∨ ∃ b off, a = some ⟨b, off, none⟩ ∧ HeadsAt w b off l) := hi
  obtain ⟨i0, hi0, hz0, hz1, hz2⟩ := info_parts infoHeader
  clear hi
  generalize hn : l.length = n at *
  have HN : Hid (l.length = n) := hn
  clear hn
  go_enter Tryz.func31, Tryz.ntmps31
  go_wp2_with (at_make; refine wpList_make_full w rfl _ _ 32 rfl w.heap.size 73 i0 _ 2 Tryz.underlying32 hi0 hz0 hz1 _ _ _ _ n rfl rfl rfl rfl (by rw [hz2]; omega) (by unfold maxLen; omega) (Nat.le_refl _) ?_; intro w1 hown hgrow)
  have HR1 : Hid (HRoom w1 w.heap.size (n * 2) ∧ Below w.heap.size w w1) := by
    refine ⟨fun j hj => ⟨?_, hown.frozenAt j⟩, (Below.refl _ _).grown hgrow (Nat.le_refl _) (fun q hq => by cases hq)⟩
    have h1 := hown.cellAt j hj
    have h2 : j < (madeCells (Value.agg #[.string ⟨#[]⟩, .string ⟨#[]⟩]).cells (n * 2)).toList.length := by have := hown.1; omega
    exact ⟨_, h1.trans (List.getElem?_eq_getElem h2)⟩
  clear hown hgrow
  go_loopw [4] (fun i wr => ∃ k : Nat, k ≤ n ∧ i = .int .i64 k ∧ HeadsAt wr w.heap.size 0 (l.take k) ∧ HRoom wr w.heap.size (n * 2) ∧ Below w.heap.size w wr) (fun i _ => n - (intOf i).toNat)
  case atStart => exact ⟨0, Nat.zero_le _, rfl, fun i r hr => by simp at hr, HR1.out.1, HR1.out.2⟩
  case round =>
    obtain ⟨k, hk, rfl, hat, hroom, hb⟩ := hrel
    clear HR1
    by_cases hlt : k < n
    · obtain ⟨r, hr⟩ : ∃ r, l[k]? = some r := ⟨l[k]'(by have := HN.out; omega), List.getElem?_eq_getElem _⟩
      rcases HI.out with h | ⟨b, off, rfl, hsrc⟩
      · subst h; simp at hr
      have hblt : b < w.heap.size := block_lt_of_cell (hsrc k r hr).1
      have hkeep := (hsrc.keep (w' := w) (Below.refl _ _)) k r hr
      have p1 : wr.cell? ⟨b, off + k * 2, none⟩ = some (.string r.name) := by rw [hb.cell (p := ⟨b, off + k * 2, none⟩) hblt]; exact hkeep.1
      have p3 : wr.cell? ⟨b, off + k * 2 + 1, none⟩ = some (.string r.value) := by rw [hb.cell (p := ⟨b, off + k * 2 + 1, none⟩) hblt]; exact hkeep.2
      have HA : Hid (HeadsAt wr w.heap.size 0 (l.take k)) := hat
      have HM : Hid (HRoom wr w.heap.size (n * 2)) := hroom
      have HR : Hid (l[k]? = some r) := hr
      have g : (k : Int) < n := by omega
      clear hat hroom hr hsrc hkeep HI
      go_wp2_with fail
      refine (toHeader_any r _).mono ?_
      rintro e w2 ⟨rfl, hb2⟩
      have HA2 : Hid (HeadsAt w2 w.heap.size 0 (l.take k)) := HA.out.keep hb2
      have HM2 : Hid (HRoom w2 w.heap.size (n * 2)) := HM.out.keep hb2
      have hbb : Below w.heap.size w w2 := hb.trans (hb2.mono hb.size)
      obtain ⟨⟨u0, g0⟩, f0⟩ := HM2.out (k * 2) (by omega)
      obtain ⟨⟨u1, g1⟩, f1⟩ := HM2.out (k * 2 + 1) (by omega)
      have HP : Hid (HeadsAt (put2 w2 w.heap.size k r) w.heap.size 0 (l.take (k + 1)) ∧ HRoom (put2 w2 w.heap.size k r) w.heap.size (n * 2)) := ⟨HA2.out.put HR.out HM2.out hlt, HM2.out.put k r⟩
      clear HA HM HA2 HM2 hb2 hb p1 p3
      obtain ⟨rn, rv⟩ := r
      go_wp2_with fail
      go_roundw
      case rel => exact ⟨k + 1, by omega, by go_num, HP.out.1, HP.out.2, (hbb.setCell (Nat.le_refl _) _).setCell (Nat.le_refl _) _⟩
      case measure => simp [intOf]; omega
    · have HF : Hid (HeadsAt wr w.heap.size 0 l) := by
        have e : l.take k = l := List.take_of_length_le (by have := HN.out; omega)
        rw [e] at hat
        exact hat
      clear hat hroom
      go_wp2_with fail
      go_ret
      exact ⟨rfl, HF.out, hb⟩
end Go.Proofs.YthiiaefdobpjhaaGreatDoor
/-
  Appending, for whatever element: what is appended may be nil.
-/
namespace Go.Proofs.YthiiaefdobpjhaaGreatDoor
open Go.ChangeShapes Go.WideShapes Go.ChangeAt Go.RowKit Go.Sort
theorem row_ge {w : World} {base : Nat} {e : TypeId} {size : Nat} {v : Value} {n : Nat} {xs : List Value} (h : w.ownsRow base e size v n xs) (q : Nat) (hq : v.ownBlock = some q) : base ≤ q := (World.ownsRow.lt h q hq).1
theorem row_form {w : World} {base : Nat} {e : TypeId} {size : Nat} {v : Value} {n : Nat} {xs : List Value} (h : w.ownsRow base e size v n xs) : ∃ va vc, v = .slice va n vc ∧ n ≤ vc := by
  obtain ⟨_, h1 | ⟨g, c2, cur, e2, _, _, hc2, _⟩⟩ := h
  · obtain ⟨rfl, rfl⟩ := h1
    exact ⟨none, 0, rfl, Nat.le_refl _⟩
  · exact ⟨_, c2, e2, hc2⟩
theorem row_below {w w' : World} {base : Nat} {e : TypeId} {size : Nat} {v : Value} {n : Nat} {xs : List Value} (h : w.ownsRow base e size v n xs) (hb : Below w.heap.size w w') : w'.ownsRow base e size v n xs := by
  obtain ⟨h1, h2⟩ := h
  refine ⟨h1, ?_⟩
  rcases h2 with h2 | ⟨g, c, cur, e, hg, hh, hrest⟩
  · exact .inl h2
  · exact .inr ⟨g, c, cur, e, hg, by rw [hb.block g (Array.getElem?_eq_some_iff.1 hh).1]; exact hh, hrest⟩
theorem row_lower {w : World} {b0 base : Nat} {e : TypeId} {size : Nat} {v : Value} {n : Nat} {xs : List Value} (h : w.ownsRow base e size v n xs) (hb : b0 ≤ base) : w.ownsRow b0 e size v n xs := by
  obtain ⟨h1, h2⟩ := h
  refine ⟨h1, ?_⟩
  rcases h2 with h2 | ⟨g, c, cur, e, hg, hrest⟩
  · exact .inl h2
  · exact .inr ⟨g, c, cur, e, by omega, hrest⟩
theorem row_zero {P : Program} (w : World) (t ty e : TypeId) (i : TypeInfo) (ht : P.underlying t = some (.slice e)) (hi : P.info? e = some i) (base : Option Addr) (n k : Nat) (hle : n ≤ k) (pb : Option Addr) (c : Nat) :
    (Builtin.append_ #[t, t] ty #[.slice base n k, .slice pb 0 c]).run P w = .ok (.slice base n k) w := by
  cases base <;> cases pb <;> simp [Builtin.append_, run_underlying ht, sizeOf, typeInfo, hi, Builtin.lenOf, Builtin.firstCells, hle, storeCells, loadCells, loadCellsFrom]
section
variable {P : Program}
theorem wp_append_in {o : Oper} {a : Act} {K : Act → World → Prop} {Q : Exit → Act → World → Prop} (w : World) (s x : Operand) (t e : TypeId)
    (ho : o.op = .call { callee := .builtin .append, args := #[s, x], argTypes := #[t, t] })
    (i : TypeInfo) (z : Value) (size bytes : Nat) (ht : P.underlying t = some (.slice e)) (hi : P.info? e = some i) (hz : i.zero = some z) (hsize : i.size = size) (hby : i.bytes = bytes) (hzs : z.cells.size = size) (hsz : 0 < size)
    (base : Nat) (v : Value) (n : Nat) (xs : List Value) (hs : a.eval s = v) (hown : w.ownsRow base e size v n xs)
    (pa : Option Addr) (cap m : Nat) (news : List Value) (hx : a.eval x = .slice pa m cap) (hl : news.length = m * size) (hnews : m = 0 ∨ ∃ ad, pa = some ad ∧ ∀ j u, news[j]? = some u → w.cell? (ad.add j) = some u) (h1 : ∀ u ∈ news, u.oneCell' = true)
    (h63 : n + m ≤ maxLen) (hbytes : (n + m) * bytes ≤ 140737488355328) (hbase : base ≤ w.heap.size)
    (h : ∀ v' w', w'.ownsRow base e size v' (n + m) (xs ++ news) → Below base w w' → (∀ b o, b < w.heap.size → v.ownBlock ≠ some b → w'.cell? ⟨b, o, none⟩ = w.cell? ⟨b, o, none⟩ ∧ w'.frozen? ⟨b, o, none⟩ = w.frozen? ⟨b, o, none⟩) → K (a.put o.dst v') w') :
    Oper.wp P o a w K Q := by
  by_cases h0 : m = 0
  · subst h0
    obtain ⟨va, vc, rfl, hle⟩ := row_form hown
    have en : news = [] := List.eq_nil_of_length_eq_zero (by rw [hl, Nat.zero_mul])
    subst en
    unfold Oper.wp execOp
    simp only [ho, resolve, invoke, builtin, Sem.run_bind, Sem.run_pure, Result.andThen_ok, List.map_toArray, List.map_cons, List.map_nil, hs, hx]
    rw [row_zero w t _ e i ht hi va n vc hle pa cap]
    exact h _ w (by simpa using hown) (Below.refl _ _) (fun _ _ _ _ => ⟨rfl, rfl⟩)
  · rcases hnews with hnews | ⟨ad, rfl, hnews⟩
    · exact absurd hnews h0
    · refine wp_append_lies w s x t ho base e i z size bytes ht hi hz hsize hby hzs hsz v n xs hs hown ad m cap news hx hl hnews h1 (by omega) h63 hbytes hbase _ rfl ?_
      intro g c w' h1 h2 h3 h4
      exact h _ w' h1 ((Below.refl base w).grown h2 hbase (fun q hq => row_ge hown q hq)) (fun b o hb hne => ⟨h2.cell_far ⟨b, o, none⟩ hb hne.symm, h2.frozen_far ⟨b, o, none⟩ hb hne.symm⟩)
theorem step_append_in {ops : Array Oper} {o : Oper} {a : Act} {K : Act → World → Prop} {Q : Exit → Act → World → Prop} {E : Prop} (w : World) (hgd : o.guard = none) (s x : Operand) (t e : TypeId)
    (ho : o.op = .call { callee := .builtin .append, args := #[s, x], argTypes := #[t, t] })
    (i : TypeInfo) (z : Value) (size bytes : Nat) (ht : P.underlying t = some (.slice e)) (hi : P.info? e = some i) (hz : i.zero = some z) (hsize : i.size = size) (hby : i.bytes = bytes) (hzs : z.cells.size = size) (hsz : 0 < size)
    (base : Nat) (v : Value) (n : Nat) (xs : List Value) (hs : a.eval s = v) (hown : w.ownsRow base e size v n xs)
    (pa : Option Addr) (cap m : Nat) (news : List Value) (hx : a.eval x = .slice pa m cap) (hl : news.length = m * size) (hnews : m = 0 ∨ ∃ ad, pa = some ad ∧ ∀ j u, news[j]? = some u → w.cell? (ad.add j) = some u) (h1 : ∀ u ∈ news, u.oneCell' = true)
    (h63 : n + m ≤ maxLen) (hbytes : (n + m) * bytes ≤ 140737488355328) (hbase : base ≤ w.heap.size)
    (h : ∀ v' w', w'.ownsRow base e size v' (n + m) (xs ++ news) → Below base w w' → (∀ b o, b < w.heap.size → v.ownBlock ≠ some b → w'.cell? ⟨b, o, none⟩ = w.cell? ⟨b, o, none⟩ ∧ w'.frozen? ⟨b, o, none⟩ = w.frozen? ⟨b, o, none⟩) → K (a.put o.dst v') w') :
    if Region.wanted o (yielded ops a.tmps) = true then Oper.wp P o a w K Q else E := by
  have hw : Region.wanted o (yielded ops a.tmps) = true := by simp [Region.wanted, hgd]
  rw [if_pos hw]
  exact wp_append_in w s x t e ho i z size bytes ht hi hz hsize hby hzs hsz base v n xs hs hown pa cap m news hx hl hnews h1 h63 hbytes hbase h
end
end Go.Proofs.YthiiaefdobpjhaaGreatDoor
/-
  What the laws over lists of items share.
-/
namespace Go.Proofs.YthiiaefdobpjhaaGreatDoor
open Go.ChangeShapes Go.WideShapes Go.ChangeAt Go.RowKit
/-- The slice at a holds the items l. -/
def HdsIn (w : World) (a : Option Addr) (l : List Hdr) : Prop := l = [] ∨ ∃ b off, a = some ⟨b, off, none⟩ ∧ HeadsAt w b off l
theorem HdsIn.keep {w w' : World} {a : Option Addr} {l : List Hdr} (h : HdsIn w a l) (hb : Below w.heap.size w w') : HdsIn w' a l := by
  rcases h with h | ⟨b, off, e, hat⟩
  · exact .inl h
  · exact .inr ⟨b, off, e, hat.keep hb⟩
theorem szH_room {left : Int} {r : Hdr} (h : ¬ szH left r < 0) : (r.name.size : Int) ≤ left ∧ (r.value.size : Int) ≤ left ∧ szH left r ≤ left := by
  by_cases c1 : left - (r.name.size : Int) < 0
  · rw [show szH left r = -1 from by simp [szH, c1]] at h; omega
  · by_cases c2 : left - (r.name.size : Int) - (r.value.size : Int) < 0
    · rw [show szH left r = -1 from by simp [szH, c1, c2]] at h; omega
    · have e : szH left r = left - (r.name.size : Int) - (r.value.size : Int) := by simp [szH, c1, c2]
      rw [e]
      omega
theorem szHs_room (l : List Hdr) : ∀ left : Int, ¬ szHs left l < 0 → left ≤ 1048576 → ∀ (i : Nat) r, l[i]? = some r → r.name.size ≤ 1048576 ∧ r.value.size ≤ 1048576 := by
  induction l with
  | nil => intro left _ _ i r hr; simp at hr
  | cons x l ih =>
    intro left h hl i r hr
    rw [szHs] at h
    by_cases c : szH left x < 0
    · rw [if_pos c] at h; omega
    · rw [if_neg c] at h
      obtain ⟨z1, z2, z3⟩ := szH_room c
      cases i with
      | zero => simp at hr; subst hr; omega
      | succ i => exact ih _ h (by omega) i r (by simpa using hr)
theorem szHL_room {l : List Hdr} {left : Int} (hl : left ≤ 1048576) (h : ¬ szHL left l < 0) : (l.length : Int) ≤ 1048576 ∧ ∀ (i : Nat) r, l[i]? = some r → r.name.size ≤ 1048576 ∧ r.value.size ≤ 1048576 := by
  unfold szHL at h
  by_cases c : left - (l.length : Int) < 0
  · rw [if_pos c] at h; omega
  · rw [if_neg c] at h
    exact ⟨by omega, szHs_room l _ h (by omega)⟩
theorem szHs_le (l : List Hdr) : ∀ left : Int, szHs left l ≤ left ∨ szHs left l < 0 := by
  induction l with
  | nil => intro left; exact .inl (Int.le_refl _)
  | cons x l ih =>
    intro left
    rw [szHs]
    by_cases c : szH left x < 0
    · rw [if_pos c]; right; decide
    · rw [if_neg c]
      have := (szH_room c).2.2
      rcases ih (szH left x) with h | h
      · left; omega
      · right; exact h
theorem szHL_le {l : List Hdr} {left : Int} (h : ¬ szHL left l < 0) : szHL left l ≤ left := by
  unfold szHL at h ⊢
  by_cases c : left - (l.length : Int) < 0
  · rw [if_pos c] at h; omega
  · rw [if_neg c] at h ⊢
    rcases szHs_le l (left - (l.length : Int)) with x | x <;> omega
end Go.Proofs.YthiiaefdobpjhaaGreatDoor
/-
  Contracts of Go library functions at this program: the tables by which the library of proofs knows its functions here (made by the kit tool lay-plain).
-/
namespace Go.Proofs
open Go.Shelf
def Tryz.lays156_ren : Go.Shelf.Ren := ⟨fun | 156 => 77 | 165 => 84 | 166 => 85 | 169 => 86 | 240 => 95 | 241 => 96 | 276 => 101 | 277 => 102 | n => n, fun | 31 => 101 | 9 => 9 | 3 => 3 | 4 => 4 | 0 => 0 | 20 => 20 | 72 => 118 | 76 => 120 | 70 => 116 | 37 => 25 | 75 => 78 | 127 => 130 | 164 => 134 | 5 => 5 | 80 => 122 | n => n, fun | n => n⟩
theorem Tryz.lays156 : Go.Proofs.Lays.n156 Tryz.prog Tryz.lays156_ren := {
  mixed := by kernel_rfl
  f156 := Tryz.func77.trans (congrArg some (by kernel_rfl))
  f165 := Tryz.func84.trans (congrArg some (by kernel_rfl))
  f166 := Tryz.func85.trans (congrArg some (by kernel_rfl))
  f169 := Tryz.func86.trans (congrArg some (by kernel_rfl))
  f240 := Tryz.func95.trans (congrArg some (by kernel_rfl))
  f241 := Tryz.func96.trans (congrArg some (by kernel_rfl))
  f276 := Tryz.func101.trans (congrArg some (by kernel_rfl))
  f277 := Tryz.func102.trans (congrArg some (by kernel_rfl))
  t0 := Tryz.underlying0
  a0 := Tryz.isAgg0
  z0 := Tryz.sizeOf0
  v0 := Tryz.zeroValue0
  t3 := Tryz.underlying3
  a3 := Tryz.isAgg3
  z3 := Tryz.sizeOf3
  v3 := Tryz.zeroValue3
  t4 := Tryz.underlying4
  a4 := Tryz.isAgg4
  z4 := Tryz.sizeOf4
  v4 := Tryz.zeroValue4
  t9 := Tryz.underlying9
  a9 := Tryz.isAgg9
  z9 := Tryz.sizeOf9
  v9 := Tryz.zeroValue9
  t20 := Tryz.underlying20
  a20 := Tryz.isAgg20
  z20 := Tryz.sizeOf20
  v20 := Tryz.zeroValue20
  t31 := Tryz.underlying101
  a31 := Tryz.isAgg101
  z31 := Tryz.sizeOf101
  v31 := Tryz.zeroValue101
  t37 := Tryz.underlying25
  a37 := Tryz.isAgg25
  z37 := Tryz.sizeOf25
  v37 := Tryz.zeroValue25
  t70 := Tryz.underlying116
  a70 := Tryz.isAgg116
  z70 := Tryz.sizeOf116
  v70 := Tryz.zeroValue116
  t72 := Tryz.underlying118
  a72 := Tryz.isAgg118
  z72 := Tryz.sizeOf118
  v72 := Tryz.zeroValue118
  t75 := Tryz.underlying78
  a75 := Tryz.isAgg78
  z75 := Tryz.sizeOf78
  v75 := Tryz.zeroValue78
  t76 := Tryz.underlying120
  a76 := Tryz.isAgg120
  z76 := Tryz.sizeOf120
  v76 := Tryz.zeroValue120
  t127 := Tryz.underlying130
  a127 := Tryz.isAgg130
  z127 := Tryz.sizeOf130
  v127 := Tryz.zeroValue130
  t164 := Tryz.underlying134
  a164 := Tryz.isAgg134
  z164 := Tryz.sizeOf134
  v164 := Tryz.zeroValue134 }
def Tryz.lays160_ren : Go.Shelf.Ren := ⟨fun | 160 => 81 | 232 => 89 | 231 => 88 | 227 => 90 | 234 => 92 | 233 => 91 | 236 => 94 | 235 => 93 | 228 => 97 | 271 => 100 | 151 => 99 | 197 => 98 | 120 => 105 | 152 => 104 | 260 => 103 | 137 => 106 | 119 => 107 | 224 => 108 | 225 => 109 | 217 => 110 | 266 => 111 | n => n, fun | 9 => 9 | 4 => 4 | 3 => 3 | 5 => 5 | 117 => 126 | 116 => 125 | 0 => 0 | 124 => 129 | 21 => 21 | 105 => 131 | 46 => 139 | 119 => 138 | 139 => 142 | 138 => 141 | n => n, fun | 3 => 6 | 4 => 7 | n => n⟩
theorem Tryz.lays160 : Go.Proofs.Lays.n160 Tryz.prog Tryz.lays160_ren := {
  mixed := by kernel_rfl
  f119 := Tryz.func107.trans (congrArg some (by kernel_rfl))
  f120 := Tryz.func105.trans (congrArg some (by kernel_rfl))
  f137 := Tryz.func106.trans (congrArg some (by kernel_rfl))
  f151 := Tryz.func99.trans (congrArg some (by kernel_rfl))
  f152 := Tryz.func104.trans (congrArg some (by kernel_rfl))
  f160 := Tryz.func81.trans (congrArg some (by kernel_rfl))
  f197 := Tryz.func98.trans (congrArg some (by kernel_rfl))
  f217 := Tryz.func110.trans (congrArg some (by kernel_rfl))
  f224 := Tryz.func108.trans (congrArg some (by kernel_rfl))
  f225 := Tryz.func109.trans (congrArg some (by kernel_rfl))
  f227 := Tryz.func90.trans (congrArg some (by kernel_rfl))
  f228 := Tryz.func97.trans (congrArg some (by kernel_rfl))
  f231 := Tryz.func88.trans (congrArg some (by kernel_rfl))
  f232 := Tryz.func89.trans (congrArg some (by kernel_rfl))
  f233 := Tryz.func91.trans (congrArg some (by kernel_rfl))
  f234 := Tryz.func92.trans (congrArg some (by kernel_rfl))
  f235 := Tryz.func93.trans (congrArg some (by kernel_rfl))
  f236 := Tryz.func94.trans (congrArg some (by kernel_rfl))
  f260 := Tryz.func103.trans (congrArg some (by kernel_rfl))
  f266 := Tryz.func111.trans (congrArg some (by kernel_rfl))
  f271 := Tryz.func100.trans (congrArg some (by kernel_rfl))
  t0 := Tryz.underlying0
  a0 := Tryz.isAgg0
  z0 := Tryz.sizeOf0
  v0 := Tryz.zeroValue0
  t3 := Tryz.underlying3
  a3 := Tryz.isAgg3
  z3 := Tryz.sizeOf3
  v3 := Tryz.zeroValue3
  t4 := Tryz.underlying4
  a4 := Tryz.isAgg4
  z4 := Tryz.sizeOf4
  v4 := Tryz.zeroValue4
  t5 := Tryz.underlying5
  a5 := Tryz.isAgg5
  z5 := Tryz.sizeOf5
  v5 := Tryz.zeroValue5
  t9 := Tryz.underlying9
  a9 := Tryz.isAgg9
  z9 := Tryz.sizeOf9
  v9 := Tryz.zeroValue9
  t21 := Tryz.underlying21
  a21 := Tryz.isAgg21
  z21 := Tryz.sizeOf21
  v21 := Tryz.zeroValue21
  t46 := Tryz.underlying139
  a46 := Tryz.isAgg139
  z46 := Tryz.sizeOf139
  v46 := Tryz.zeroValue139
  t105 := Tryz.underlying131
  a105 := Tryz.isAgg131
  z105 := Tryz.sizeOf131
  v105 := Tryz.zeroValue131
  t116 := Tryz.underlying125
  a116 := Tryz.isAgg125
  z116 := Tryz.sizeOf125
  t117 := Tryz.underlying126
  a117 := Tryz.isAgg126
  z117 := Tryz.sizeOf126
  v117 := Tryz.zeroValue126
  t119 := Tryz.underlying138
  a119 := Tryz.isAgg138
  z119 := Tryz.sizeOf138
  t124 := Tryz.underlying129
  a124 := Tryz.isAgg129
  z124 := Tryz.sizeOf129
  v124 := Tryz.zeroValue129
  t138 := Tryz.underlying141
  a138 := Tryz.isAgg141
  z138 := Tryz.sizeOf141
  v138 := Tryz.zeroValue141
  t139 := Tryz.underlying142
  a139 := Tryz.isAgg142
  z139 := Tryz.sizeOf142
  v139 := Tryz.zeroValue142
  g3 := by kernel_rfl
  g4 := by kernel_rfl }
def Tryz.laysM316_ren : Go.Shelf.Ren := ⟨fun | 316 => 83 | n => n, fun | 9 => 9 | 3 => 3 | 4 => 4 | 37 => 25 | 0 => 0 | 127 => 130 | 5 => 5 | n => n, fun | n => n⟩
theorem Tryz.laysM316 : Go.Proofs.LaysM.n316 Tryz.prog Tryz.laysM316_ren := {
  mixed := by kernel_rfl
  f316 := Tryz.func83.trans (congrArg some (by kernel_rfl))
  t0 := Tryz.underlying0
  a0 := Tryz.isAgg0
  z0 := Tryz.sizeOf0
  v0 := Tryz.zeroValue0
  t3 := Tryz.underlying3
  a3 := Tryz.isAgg3
  z3 := Tryz.sizeOf3
  v3 := Tryz.zeroValue3
  t4 := Tryz.underlying4
  a4 := Tryz.isAgg4
  z4 := Tryz.sizeOf4
  v4 := Tryz.zeroValue4
  t9 := Tryz.underlying9
  a9 := Tryz.isAgg9
  z9 := Tryz.sizeOf9
  v9 := Tryz.zeroValue9
  t37 := Tryz.underlying25
  a37 := Tryz.isAgg25
  z37 := Tryz.sizeOf25
  v37 := Tryz.zeroValue25
  t127 := Tryz.underlying130
  a127 := Tryz.isAgg130
  z127 := Tryz.sizeOf130
  v127 := Tryz.zeroValue130
  t5 := Tryz.underlying5
  a5 := Tryz.isAgg5
  z5 := Tryz.sizeOf5
  v5 := Tryz.zeroValue5
  i0 := by kernel_rfl
  i3 := by kernel_rfl
  i4 := by kernel_rfl
  i5 := by kernel_rfl
  i9 := by kernel_rfl
  i37 := by kernel_rfl
  i127 := by kernel_rfl }
def Tryz.lays99_ren : Go.Shelf.Ren := ⟨fun | 99 => 69 | 206 => 78 | n => n, fun | 9 => 9 | 4 => 4 | 3 => 3 | n => n, fun | n => n⟩
theorem Tryz.lays99 : Go.Proofs.Lays.n99 Tryz.prog Tryz.lays99_ren := {
  mixed := by kernel_rfl
  f99 := Tryz.func69.trans (congrArg some (by kernel_rfl))
  f206 := Tryz.func78.trans (congrArg some (by kernel_rfl))
  t3 := Tryz.underlying3
  a3 := Tryz.isAgg3
  z3 := Tryz.sizeOf3
  v3 := Tryz.zeroValue3
  t4 := Tryz.underlying4
  a4 := Tryz.isAgg4
  z4 := Tryz.sizeOf4
  v4 := Tryz.zeroValue4
  t9 := Tryz.underlying9
  a9 := Tryz.isAgg9
  z9 := Tryz.sizeOf9
  v9 := Tryz.zeroValue9 }
def Tryz.lays115_ren : Go.Shelf.Ren := ⟨fun | 115 => 47 | n => n, fun | 37 => 25 | 4 => 4 | 9 => 9 | 5 => 5 | n => n, fun | n => n⟩
theorem Tryz.lays115 : Go.Proofs.Lays.n115 Tryz.prog Tryz.lays115_ren := {
  mixed := by kernel_rfl
  f115 := Tryz.func47.trans (congrArg some (by kernel_rfl))
  t4 := Tryz.underlying4
  a4 := Tryz.isAgg4
  z4 := Tryz.sizeOf4
  v4 := Tryz.zeroValue4
  t9 := Tryz.underlying9
  a9 := Tryz.isAgg9
  z9 := Tryz.sizeOf9
  v9 := Tryz.zeroValue9
  t37 := Tryz.underlying25
  a37 := Tryz.isAgg25
  z37 := Tryz.sizeOf25
  v37 := Tryz.zeroValue25 }
end Go.Proofs
/-
  A slice of texts that the call itself grows; joined and copied.
-/
namespace Go.Proofs.YthiiaefdobpjhaaGreatDoor
open Go.ChangeShapes Go.WideShapes Go.ChangeAt Go.RowKit
theorem infoStr : (Tryz.prog.info? 9).map (fun i => (i.zero, i.size, i.bytes)) = some (some (.string ⟨#[]⟩), 1, 16) := by kernel_rfl
def textsW (l : List ByteArray) : List Value := l.map Value.string
/-- v, nil or not, holds the texts l in a row of the call's own. -/
def OwnS (w : World) (base : Nat) (v : Value) (l : List ByteArray) : Prop := w.ownsRow base 9 1 v l.length (textsW l)
theorem OwnS.nil (w : World) (base : Nat) : OwnS w base (.slice none 0 0) [] := World.ownsRow_nil _ _ _ _
theorem OwnS.below {w w' : World} {base : Nat} {v : Value} {l : List ByteArray} (h : OwnS w base v l) (hb : Below w.heap.size w w') : OwnS w' base v l := by
  obtain ⟨h1, h2⟩ := h
  refine ⟨h1, ?_⟩
  rcases h2 with h2 | ⟨g, c, cur, e, hg, hh, hrest⟩
  · exact .inl h2
  · exact .inr ⟨g, c, cur, e, hg, by rw [hb.block g (Array.getElem?_eq_some_iff.1 hh).1]; exact hh, hrest⟩
theorem OwnS.lower {w : World} {b0 base : Nat} {v : Value} {l : List ByteArray} (h : OwnS w base v l) (hb : b0 ≤ base) : OwnS w b0 v l := by
  obtain ⟨h1, h2⟩ := h
  refine ⟨h1, ?_⟩
  rcases h2 with h2 | ⟨g, c, cur, e, hg, hrest⟩
  · exact .inl h2
  · exact .inr ⟨g, c, cur, e, by omega, hrest⟩
theorem own_geS {w : World} {base : Nat} {e : TypeId} {size : Nat} {v : Value} {n : Nat} {xs : List Value} (h : w.ownsRow base e size v n xs) (q : Nat) (hq : v.ownBlock = some q) : base ≤ q := by
  obtain ⟨_, h | ⟨g, c, cur, rfl, hg, _⟩⟩ := h
  · rw [h.1] at hq; cases hq
  · simp only [Value.ownBlock, Option.some.injEq] at hq; omega
theorem wpList_append_str {ops : Array Oper} {rest : List Oper} {o : Oper} {a : Act} {Q : Exit → Act → World → Prop} (w : World) (hgd : o.guard = none) (s x : Operand)
    (ho : o.op = .call { callee := .builtin .append, args := #[s, x], argTypes := #[101, 101] }) (base : Nat) (v : Value) (l : List ByteArray) (z : ByteArray)
    (hs : a.eval s = v) (hx : a.eval x = .slice (some ⟨w.heap.size, 0, none⟩) 1 1) (hown : OwnS w base v l) (hl : l.length ≤ 1000000) (hbase : base ≤ w.heap.size)
    (h : ∀ v' w', OwnS w' base v' (l ++ [z]) → Below base w w' → w.heap.size ≤ w'.heap.size → wpList Tryz.prog ops Q rest (a.put o.dst v') w') :
    wpList Tryz.prog ops Q (o :: rest) a (w.alloc (.cells #[.string z] 9)) := by
  obtain ⟨i0, hi, hz0, hz1, hz2⟩ := info_parts infoStr
  refine wpList_append_own _ hgd s x 101 ho base 9 i0 (.string ⟨#[]⟩) 1 16 Tryz.underlying101 hi hz0 hz1 hz2 rfl (by decide) v l.length (textsW l) hs (World.ownsRow.alloc hown _) ⟨w.heap.size, 0, none⟩ 1 1 [.string z] hx rfl ?_ ?_ ?_ ?_ ?_ ?_
  · intro j u hj
    match j, hj with
    | 0, hj => simp at hj; subst hj; simp [Addr.add]
  · intro u hu; simp at hu; subst hu; rfl
  · unfold maxLen; omega
  · omega
  · simp; omega
  · intro v' w' h1 h2 h3
    have e : textsW (l ++ [z]) = textsW l ++ [Value.string z] := by simp [textsW]
    refine h v' w' (by unfold OwnS; rw [e, List.length_append]; exact h1) ?_ ?_
    · exact ((Below.refl base w).alloc hbase _).grown h2 (by simp; omega) (fun q hq => own_geS hown q hq)
    · have hb := ((Below.refl 0 w).alloc (Nat.zero_le _) (.cells #[.string z] 9)).grown h2 (Nat.zero_le _) (fun q _ => Nat.zero_le _)
      exact hb.size
theorem joinExtra : Builder.Extra Tryz.prog Tryz.lays156_ren where -- of 77
  sizeBuilder := by kernel_rfl
  liesBuilder := by kernel_rfl
  t5 := Tryz.underlying5
  a5 := Tryz.isAgg5
  z5 := Tryz.sizeOf5
  v5 := Tryz.zeroValue5
  infoByte := by kernel_rfl
  cellsByte := by kernel_rfl
  sizeByte := by kernel_rfl
  neB5 := by decide
/-- strings.Join over the call's own texts. -/
theorem join_own (w : World) (base : Nat) (v : Value) (xs : List ByteArray) (h : OwnS w base v xs) (hN : xs.length ≤ 1000000) (hlen : (Lib.join (xs.map (·.data.toList)) [44, 32]).length ≤ 1000000) :
    Calls Tryz.prog 77 #[v, .string ⟨#[44, 32]⟩] w fun e w' => e = .returned (.string ⟨(Lib.join (xs.map (·.data.toList)) [44, 32]).toArray⟩) ∧ Below w.heap.size w w' := by
  have h0 := h
  obtain ⟨_, h1 | ⟨g, c, cur, rfl, _, hh, hcap, _⟩⟩ := h
  · have : xs = [] := List.eq_nil_of_length_eq_zero h1.2
    subst this
    rw [h1.1]
    exact (Any.strings_Join_none Tryz.lays156 joinExtra none 0 ⟨#[44, 32]⟩ w).mono fun e w' ⟨he, hw⟩ => ⟨he, hw ▸ Below.refl _ _⟩
  · refine Any.strings_Join Tryz.lays156 joinExtra g 0 c xs ⟨#[44, 32]⟩ w ?_ (Array.getElem?_eq_some_iff.1 hh).1 (by omega) hcap (by simpa using (by omega : (Lib.join (xs.map (·.data.toList)) [44, 32]).length ≤ 140737488355328))
    intro j x hj
    have hj2 := (List.getElem?_eq_some_iff.1 hj).1
    have := World.ownsRow.cellAt h0 j (by omega)
    rw [show 0 + j = j from by omega]
    rw [this]
    simp [textsW, hj]
theorem clone_lib2 (s : ByteArray) (w : World) (hs : s.size ≤ 1048576) :
    Calls Tryz.prog 83 #[.string s] w fun e w' => e = .returned (.string s) ∧ Below w.heap.size w w' :=
  Any.stringslite_Clone Tryz.laysM316 s w (by omega)
set_option maxHeartbeats 400000 in
theorem clone_text (s : ByteArray) (w : World) (hs : s.size ≤ 1048576) :
    Calls Tryz.prog 76 #[.string s] w fun e w' => e = .returned (.string s) ∧ Below w.heap.size w w' := by
  go_enter Tryz.func76, Tryz.ntmps76
  go_wp2_with fail
  refine (clone_lib2 s _ hs).mono ?_
  rintro e w1 ⟨rfl, hb⟩
  go_wp2
  go_ret
  exact ⟨rfl, hb⟩
end Go.Proofs.YthiiaefdobpjhaaGreatDoor
/-
  Head lines that the call itself grows.
-/
namespace Go.Proofs.YthiiaefdobpjhaaGreatDoor
open Go.ChangeShapes Go.WideShapes Go.ChangeAt Go.RowKit
def hdrW (r : Hdr) : List Value := [.string r.name, .string r.value]
def hdrsW (l : List Hdr) : List Value := l.flatMap hdrW
theorem hdrsW_len (l : List Hdr) : (hdrsW l).length = l.length * 2 := by
  induction l with
  | nil => rfl
  | cons r l ih => simp only [hdrsW, List.flatMap_cons, List.length_append, List.length_cons] at ih ⊢; rw [ih]; simp [hdrW]; omega
theorem hdrsW_at (l : List Hdr) : ∀ (i : Nat) r, l[i]? = some r → (hdrsW l)[i * 2]? = some (.string r.name) ∧ (hdrsW l)[i * 2 + 1]? = some (.string r.value) := by
  induction l with
  | nil => intro i r hr; simp at hr
  | cons x l ih =>
    intro i r hr
    have e : hdrsW (x :: l) = .string x.name :: .string x.value :: hdrsW l := by simp [hdrsW, hdrW]
    rw [e]
    cases i with
    | zero => simp at hr; subst hr; simp
    | succ i =>
      have := ih i r (by simpa using hr)
      rw [show (i + 1) * 2 = i * 2 + 1 + 1 from by omega]
      simpa using this
/-- v, nil or not, holds the items l in a row of the call's own, from block base on. -/
def OwnH (w : World) (base : Nat) (v : Value) (l : List Hdr) : Prop := w.ownsRow base 73 2 v l.length (hdrsW l)
theorem OwnH.nil (w : World) (base : Nat) : OwnH w base (.slice none 0 0) [] := World.ownsRow_nil _ _ _ _
theorem OwnH.made0 (w : World) (base : Nat) (hb : base ≤ w.heap.size) : OwnH (w.alloc (.cells #[] 73)) base (.slice (some ⟨w.heap.size, 0, none⟩) 0 0) [] := World.ownsRow_made w #[] 0 hb (by unfold maxLen; omega) rfl
theorem OwnH.below {w w' : World} {base : Nat} {v : Value} {l : List Hdr} (h : OwnH w base v l) (hb : Below w.heap.size w w') : OwnH w' base v l := by
  obtain ⟨h1, h2⟩ := h
  refine ⟨h1, ?_⟩
  rcases h2 with h2 | ⟨g, c, cur, e, hg, hh, hrest⟩
  · exact .inl h2
  · exact .inr ⟨g, c, cur, e, hg, by rw [hb.block g (Array.getElem?_eq_some_iff.1 hh).1]; exact hh, hrest⟩
theorem OwnH.lower {w : World} {b0 base : Nat} {v : Value} {l : List Hdr} (h : OwnH w base v l) (hb : b0 ≤ base) : OwnH w b0 v l := by
  obtain ⟨h1, h2⟩ := h
  refine ⟨h1, ?_⟩
  rcases h2 with h2 | ⟨g, c, cur, e, hg, hrest⟩
  · exact .inl h2
  · exact .inr ⟨g, c, cur, e, by omega, hrest⟩
theorem OwnH.at {w : World} {base : Nat} {v : Value} {l : List Hdr} (h : OwnH w base v l) : ∃ a c, v = .slice a l.length c ∧ HdsIn w a l := by
  have h0 := h
  obtain ⟨_, h1 | ⟨g, c, cur, rfl, _⟩⟩ := h
  · have e : l = [] := List.eq_nil_of_length_eq_zero h1.2
    exact ⟨none, 0, by rw [h1.1, e]; rfl, .inl e⟩
  · refine ⟨_, c, rfl, .inr ⟨g, 0, rfl, fun i r hr => ?_⟩⟩
    have hi := (List.getElem?_eq_some_iff.1 hr).1
    obtain ⟨a1, a3⟩ := hdrsW_at l i r hr
    have c1 := World.ownsRow.cellAt h0 (i * 2) (by omega)
    have c3 := World.ownsRow.cellAt h0 (i * 2 + 1) (by omega)
    exact ⟨by rw [Nat.zero_add, c1, a1], by rw [Nat.zero_add, c3, a3]⟩
theorem own_geH {w : World} {base : Nat} {e : TypeId} {size : Nat} {v : Value} {n : Nat} {xs : List Value} (h : w.ownsRow base e size v n xs) (q : Nat) (hq : v.ownBlock = some q) : base ≤ q := by
  obtain ⟨_, h | ⟨g, c, cur, rfl, hg, _⟩⟩ := h
  · rw [h.1] at hq; cases hq
  · simp only [Value.ownBlock, Option.some.injEq] at hq; omega
theorem own_apartH {w : World} {base base' : Nat} {v pv : Value} {l : List Hdr} {L : List ByteArray} (hp : OwnS w base' pv L) (hv : OwnH w base v l) : pv.ownBlock = none ∨ pv.ownBlock ≠ v.ownBlock := by
  obtain ⟨_, hp | ⟨g, c, cur, rfl, _, hh, _⟩⟩ := hp
  · left; rw [hp.1]; rfl
  · right
    obtain ⟨_, hv | ⟨g2, c2, cur2, rfl, _, hh2, _⟩⟩ := hv
    · rw [hv.1]; simp [Value.ownBlock]
    · simp only [Value.ownBlock, ne_eq, Option.some.injEq]
      rintro rfl
      rw [hh] at hh2
      simp at hh2
theorem wpList_append_hdr {ops : Array Oper} {rest : List Oper} {o : Oper} {a : Act} {Q : Exit → Act → World → Prop} (w : World) (hgd : o.guard = none) (s x : Operand)
    (ho : o.op = .call { callee := .builtin .append, args := #[s, x], argTypes := #[32, 32] }) (base : Nat) (v : Value) (l : List Hdr) (n : ByteArray) (z : ByteArray)
    (hs : a.eval s = v) (hx : a.eval x = .slice (some ⟨w.heap.size, 0, none⟩) 1 1) (hown : OwnH w base v l) (hl : l.length ≤ 1000000) (hbase : base ≤ w.heap.size)
    (h : ∀ v' w', OwnH w' base v' (l ++ [⟨n, z⟩]) → Below base w w' → w.heap.size ≤ w'.heap.size → (∀ base' pv L, OwnS w base' pv L → OwnS w' base' pv L) → wpList Tryz.prog ops Q rest (a.put o.dst v') w') :
    wpList Tryz.prog ops Q (o :: rest) a (w.alloc (.cells #[.string n, .string z] 73)) := by
  obtain ⟨i0, hi, hz0, hz1, hz2⟩ := info_parts infoHeader
  refine wpList_append_own _ hgd s x 32 ho base 73 i0 (.agg #[.string ⟨#[]⟩, .string ⟨#[]⟩]) 2 32 Tryz.underlying32 hi hz0 hz1 hz2 rfl (by decide) v l.length (hdrsW l) hs (World.ownsRow.alloc hown _) ⟨w.heap.size, 0, none⟩ 1 1 [.string n, .string z] hx rfl ?_ ?_ ?_ ?_ ?_ ?_
  · intro j u hj
    match j, hj with
    | 0, hj => simp at hj; subst hj; simp [Addr.add]
    | 1, hj => simp at hj; subst hj; simp [Addr.add]
  · intro u hu; simp at hu; rcases hu with rfl | rfl <;> rfl
  · unfold maxLen; omega
  · omega
  · simp; omega
  · intro v' w' h1 h2 h3
    have e : hdrsW (l ++ [⟨n, z⟩]) = hdrsW l ++ [.string n, .string z] := by simp [hdrsW, hdrW]
    refine h v' w' (by unfold OwnH; rw [e, List.length_append]; exact h1) ?_ ?_ ?_
    · exact ((Below.refl base w).alloc hbase _).grown h2 (by simp; omega) (fun q hq => own_geH hown q hq)
    · have hb := ((Below.refl 0 w).alloc (Nat.zero_le _) (.cells #[.string n, .string z] 73)).grown h2 (Nat.zero_le _) (fun q _ => Nat.zero_le _)
      exact hb.size
    · intro base' pv L hp
      exact World.ownsRow.kept (World.ownsRow.alloc hp _) h2 (own_apartH hp hown)
end Go.Proofs.YthiiaefdobpjhaaGreatDoor
/-
  A row of bytes in memory, and small letters: no function of the program in sight.
-/
namespace Go.Proofs.YthiiaefdobpjhaaGreatDoor
/-- The block B holds the bytes l from its head on, none of them frozen. -/
structure BRow (w : World) (B : Nat) (l : List UInt8) : Prop where
  cell : ∀ j (hj : j < l.length), w.cell? ⟨B, j, none⟩ = some (.int .u8 (l[j].toNat : Int))
  free : ∀ j, j < l.length → w.frozen? ⟨B, j, none⟩ = false
theorem BRow.set {w : World} {B : Nat} {l : List UInt8} (h : BRow w B l) (k : Nat) (x : UInt8) : BRow (w.setCell ⟨B, k, none⟩ (.int .u8 (x.toNat : Int))) B (l.set k x) := by
  constructor
  · intro j hj
    simp only [List.length_set] at hj
    by_cases e : k = j
    · subst e
      rw [World.cell?_setCell_same _ _ _ (h.cell k hj)]
      simp
    · rw [World.cell?_setCell_other _ _ _ _ (by intro h2; exact e (congrArg Addr.off h2)), h.cell j hj, List.getElem_set_ne e]
  · intro j hj
    simp only [List.length_set] at hj
    rw [World.frozen?_setCell]
    exact h.free j hj
/-- What a conversion from a text lays. -/
theorem BRow.made (w : World) (s : ByteArray) (cap : Nat) (C : Array Value) (hC : C = bytesRow s cap) : BRow (w.alloc (.cells C 5 (C.size, C.size + 1))) w.heap.size s.data.toList := by
  subst hC
  have hsz : s.data.size ≤ (bytesRow s cap).size := by simp [bytesRow]
  constructor
  · intro j hj
    have hj' : j < s.data.size := by simpa using hj
    rw [World.cell?_alloc_mark, bytesRow_at s cap j hj']
    simp
  · intro j hj
    have hj' : j < s.data.size := by simpa using hj
    rw [World.frozen?_alloc_mark]
    simp
    omega
theorem BRow.back {P : Program} {w : World} {B : Nat} {l : List UInt8} (h : BRow w B l) (src dst e : TypeId) (n cap : Nat) (hn : n = l.length) (hs : P.underlying src = some (.slice e)) (he : P.underlying e = some (.int .u8)) (hd : P.underlying dst = some .string) :
    (convert src dst (.slice (some ⟨B, 0, none⟩) n cap)).run P w = .ok (.string ⟨l.toArray⟩) w := by
  subst hn
  refine run_convert_bytes_back w src dst e ⟨B, 0, none⟩ cap l hs he hd ?_
  intro j hj
  have := h.cell j hj
  by_cases e : j = 0
  · subst e; simpa [Addr.add] using this
  · simpa [Addr.add, e] using this
def lowU (c : UInt8) : UInt8 := if 65 ≤ (c.toNat : Int) ∧ (c.toNat : Int) ≤ 90 then UInt8.ofNat (c.toNat + 32) else c
theorem lowU_yes (c : UInt8) (h1 : 65 ≤ (c.toNat : Int)) (h2 : (c.toNat : Int) ≤ 90) : ((lowU c).toNat : Int) = (c.toNat : Int) + 32 := by
  unfold lowU
  rw [if_pos ⟨h1, h2⟩]
  simp
  omega
theorem lowU_no (c : UInt8) (h : ¬ (65 ≤ (c.toNat : Int) ∧ (c.toNat : Int) ≤ 90)) : lowU c = c := by
  unfold lowU
  rw [if_neg h]
/-- The bytes behind k rounds. -/
def lowK (l : List UInt8) (k : Nat) : List UInt8 := (l.take k).map lowU ++ l.drop k
theorem lowK_zero (l : List UInt8) : lowK l 0 = l := by simp [lowK]
theorem lowK_all (l : List UInt8) (k : Nat) (h : l.length ≤ k) : lowK l k = l.map lowU := by
  simp [lowK, List.take_of_length_le h, List.drop_of_length_le h]
theorem lowK_length (l : List UInt8) (k : Nat) : (lowK l k).length = l.length := by simp [lowK]; omega
theorem lowK_at? (l : List UInt8) (k : Nat) (h : k < l.length) : (lowK l k)[k]? = some l[k] := by
  unfold lowK
  rw [List.getElem?_append_right (by simp; omega)]
  simp [Nat.min_eq_left (Nat.le_of_lt h)]
theorem lowK_at (l : List UInt8) (k : Nat) (h : k < l.length) (h' : k < (lowK l k).length) : (lowK l k)[k] = l[k] := by
  have := lowK_at? l k h
  rw [List.getElem?_eq_getElem h'] at this
  exact Option.some.inj this
theorem lowK_succ (l : List UInt8) (k : Nat) (h : k < l.length) : lowK l (k + 1) = (lowK l k).set k (lowU l[k]) := by
  have hm : min k l.length = k := Nat.min_eq_left (Nat.le_of_lt h)
  unfold lowK
  rw [List.take_succ_eq_append_getElem h, List.map_append, List.drop_eq_getElem_cons h]
  rw [List.set_append_right _ _ (by simp [hm])]
  simp only [List.length_map, List.length_take, hm, Nat.sub_self, List.set_cons_zero, List.map_cons, List.map_nil, List.append_assoc, List.cons_append, List.nil_append]
theorem lowK_keep (l : List UInt8) (k : Nat) (h : k < l.length) (hn : ¬ (65 ≤ (l[k].toNat : Int) ∧ (l[k].toNat : Int) ≤ 90)) : lowK l (k + 1) = lowK l k := by
  have h2 : k < (lowK l k).length := by rw [lowK_length]; exact h
  rw [lowK_succ l k h, lowU_no _ hn, ← lowK_at l k h h2, List.set_getElem_self]
end Go.Proofs.YthiiaefdobpjhaaGreatDoor
/-
  Rows of bytes: the laws' own helpers over them.
-/
namespace Go.Proofs.YthiiaefdobpjhaaGreatDoor
open Go.ChangeShapes Go.WideShapes Go.ChangeAt Go.RowKit Go.Sort
def BAt (w : World) (b off : Nat) (l : List UInt8) : Prop := ∀ (i : Nat) c, l[i]? = some c → w.cell? ⟨b, off + i, none⟩ = some (.int .u8 (c.toNat : Int))
theorem BAt.keep {w w' : World} {b off : Nat} {l : List UInt8} (h : BAt w b off l) (hb : Below w.heap.size w w') : BAt w' b off l := by
  intro i c hc
  have := h i c hc
  rw [hb.cell (block_lt_of_cell this)]; exact this
def BIn (w : World) (a : Option Addr) (l : List UInt8) : Prop := l = [] ∨ ∃ b off, a = some ⟨b, off, none⟩ ∧ BAt w b off l
theorem BIn.keep {w w' : World} {a : Option Addr} {l : List UInt8} (h : BIn w a l) (hb : Below w.heap.size w w') : BIn w' a l := by
  rcases h with h | ⟨b, off, e, h⟩
  · exact .inl h
  · exact .inr ⟨b, off, e, h.keep hb⟩
structure BMine (W : World) (B : Nat) (l : List UInt8) : Prop where
  at0 : BAt W B 0 l
  free : ∀ o, o < l.length → W.frozen? ⟨B, o, none⟩ = false
  lt : B < W.heap.size
theorem BMine.keep {W W' : World} {B : Nat} {l : List UInt8} (h : BMine W B l) (hb : Below W.heap.size W W') : BMine W' B l :=
  ⟨h.at0.keep hb, fun o ho => by rw [hb.frozen (p := ⟨B, o, none⟩) h.lt]; exact h.free o ho, Nat.lt_of_lt_of_le h.lt hb.size⟩
theorem BMine.in {W : World} {B : Nat} {l : List UInt8} (h : BMine W B l) : BIn W (some ⟨B, 0, none⟩) l := .inr ⟨B, 0, rfl, h.at0⟩
set_option maxHeartbeats 400000 in
theorem szByteS_any (a : Option Addr) (n cap : Nat) (left : Int) (w : World) (h0 : 0 ≤ left) (h1 : left ≤ 1048576) (hn : n ≤ maxLen) :
    Calls Tryz.prog 26 #[.slice a n cap, .int .i64 left] w fun e w' => e = .returned (.int .i64 (if left - (n : Int) < 0 then -1 else left - (n : Int))) ∧ w' = w := by
  unfold maxLen at hn
  by_cases c : left - (n : Int) < 0
  · rw [if_pos c]
    go_enter Tryz.func26, Tryz.ntmps26
    go_wp2
    go_ret
    exact ⟨rfl, rfl⟩
  · rw [if_neg c]
    go_enter Tryz.func26, Tryz.ntmps26
    go_wp2
    go_ret
    exact ⟨rfl, rfl⟩
theorem infoByteR : (Tryz.prog.info? 5).map (fun i => (i.zero, i.size, i.bytes)) = some (some (.int .u8 0), 1, 1) := by kernel_rfl
theorem BAt.put {w : World} {G : Nat} {l : List UInt8} {k n : Nat} {c : UInt8} (h : BAt w G 0 (l.take k)) (hr : l[k]? = some c) (hm : HRoom w G n) (hk : k < n) : BAt (w.setCell ⟨G, k, none⟩ (.int .u8 (c.toNat : Int))) G 0 (l.take (k + 1)) := by
  intro i q hq
  have hi : i < k + 1 := by
    have := (List.getElem?_eq_some_iff.1 hq).1
    simp at this; omega
  rw [List.getElem?_take_of_lt hi] at hq
  simp only [Nat.zero_add]
  by_cases e : i = k
  · subst e
    rw [hr] at hq
    obtain rfl := Option.some.inj hq
    obtain ⟨⟨u0, g0⟩, _⟩ := hm i (by omega)
    exact World.cell?_setCell_same _ _ _ g0
  · have hq2 : (l.take k)[i]? = some q := by rw [List.getElem?_take_of_lt (by omega)]; exact hq
    have a1 := h i q hq2
    simp only [Nat.zero_add] at a1
    rw [World.cell?_setCell_other _ _ _ _ (hoff_ne (by omega))]; exact a1
set_option maxHeartbeats 2000000 in
theorem toByteS_any (w : World) (a : Option Addr) (cap : Nat) (l : List UInt8) (hl : l.length ≤ 1048576) (hi : BIn w a l) :
    Calls Tryz.prog 32 #[.slice a l.length cap] w fun e w' => e = .returned (.slice (some ⟨w.heap.size, 0, none⟩) l.length l.length) ∧ BMine w' w.heap.size l ∧ Below w.heap.size w w' := by
  have HI : Hid (BIn w a l) := hi
  obtain ⟨i0, hi0, hz0, hz1, hz2⟩ := info_parts infoByteR
  clear hi
  generalize hn : l.length = n at *
  have HN : Hid (l.length = n) := hn
  clear hn
  go_enter Tryz.func32, Tryz.ntmps32
  go_wp2_with (at_make; refine wpList_make_full w rfl _ _ 25 rfl w.heap.size 5 i0 _ 1 Tryz.underlying25 hi0 hz0 hz1 _ _ _ _ n rfl rfl rfl rfl (by rw [hz2]; omega) (by unfold maxLen; omega) (Nat.le_refl _) ?_; intro w1 hown hgrow)
  have HR1 : Hid (HRoom w1 w.heap.size n ∧ (w.heap.size < w1.heap.size ∧ ∀ o, w1.frozen? ⟨w.heap.size, o, none⟩ = false) ∧ Below w.heap.size w w1) := by
    refine ⟨fun j hj => ⟨?_, hown.frozenAt j⟩, ⟨?lt, fun o => hown.frozenAt o⟩, (Below.refl _ _).grown hgrow (Nat.le_refl _) (fun q hq => by cases hq)⟩
    case lt =>
      obtain ⟨_, h | ⟨g, c, cur, e, _, hh, _⟩⟩ := hown
      · cases h.1
      · simp only [Value.slice.injEq, Option.some.injEq] at e
        have e1 := congrArg Addr.block e.1
        simp only at e1
        rw [e1]
        exact (Array.getElem?_eq_some_iff.1 hh).1
    have h1 := hown.cellAt j (by omega)
    have h2 : j < (madeCells (Value.int .u8 0).cells (n * 1)).toList.length := by have := hown.1; omega
    exact ⟨_, h1.trans (List.getElem?_eq_getElem h2)⟩
  clear hown hgrow
  go_loopw [4] (fun i wr => ∃ k : Nat, k ≤ n ∧ i = .int .i64 k ∧ BAt wr w.heap.size 0 (l.take k) ∧ HRoom wr w.heap.size n ∧ (w.heap.size < wr.heap.size ∧ ∀ o, wr.frozen? ⟨w.heap.size, o, none⟩ = false) ∧ Below w.heap.size w wr) (fun i _ => n - (intOf i).toNat)
  case atStart => exact ⟨0, Nat.zero_le _, rfl, fun i r hr => by simp at hr, HR1.out.1, HR1.out.2.1, HR1.out.2.2⟩
  case round =>
    obtain ⟨k, hk, rfl, hat, hroom, hfr, hb⟩ := hrel
    have HFR : Hid (w.heap.size < wr.heap.size ∧ ∀ o, wr.frozen? ⟨w.heap.size, o, none⟩ = false) := hfr
    clear hfr HR1
    by_cases hlt : k < n
    · obtain ⟨c, hr⟩ : ∃ r, l[k]? = some r := ⟨l[k]'(by have := HN.out; omega), List.getElem?_eq_getElem _⟩
      rcases HI.out with h | ⟨b, off, rfl, hsrc⟩
      · subst h; simp at hr
      have p1 := hsrc k c hr
      have hblt : b < w.heap.size := block_lt_of_cell p1
      have p2 : wr.cell? ⟨b, off + k, none⟩ = some (.int .u8 (c.toNat : Int)) := by rw [hb.cell (p := ⟨b, off + k, none⟩) hblt]; exact p1
      obtain ⟨⟨u0, g0⟩, f0⟩ := hroom k (by omega)
      have HP : Hid (BAt (wr.setCell ⟨w.heap.size, k, none⟩ (.int .u8 (c.toNat : Int))) w.heap.size 0 (l.take (k + 1)) ∧ HRoom (wr.setCell ⟨w.heap.size, k, none⟩ (.int .u8 (c.toNat : Int))) w.heap.size n) := ⟨hat.put hr hroom hlt, hroom.set _ _⟩
      have g : (k : Int) < n := by omega
      have HB : Hid (Below w.heap.size w wr) := hb
      clear hat hroom hr hsrc p1 HI hb
      generalize (c.toNat : Int) = cv at *
      go_wp2_with fail
      go_roundw
      case rel => exact ⟨k + 1, by omega, by go_num, HP.out.1, HP.out.2, ⟨by simpa using HFR.out.1, fun o => by rw [World.frozen?_setCell]; exact HFR.out.2 o⟩, HB.out.setCell (Nat.le_refl _) _⟩
      case measure => simp [intOf]; omega
    · have HF : Hid (BMine wr w.heap.size l) := by
        have e : l.take k = l := List.take_of_length_le (by have := HN.out; omega)
        rw [e] at hat
        exact ⟨hat, fun o _ => HFR.out.2 o, HFR.out.1⟩
      clear hat hroom
      go_wp2_with fail
      go_ret
      exact ⟨rfl, HF.out, hb⟩
set_option maxHeartbeats 2000000 in
theorem eqByteS_same (w : World) (a1 a2 : Option Addr) (c1 c2 : Nat) (l : List UInt8) (hl : l.length ≤ 1048576) (h1 : BIn w a1 l) (h2 : BIn w a2 l) :
    Calls Tryz.prog 38 #[.slice a1 l.length c1, .slice a2 l.length c2] w fun e w' => e = .returned (.bool true) ∧ Below w.heap.size w w' := by
  have H1 : Hid (BIn w a1 l) := h1
  have H2 : Hid (BIn w a2 l) := h2
  clear h1 h2
  generalize hn : l.length = n at *
  have HN : Hid (l.length = n) := hn
  clear hn
  go_enter Tryz.func38, Tryz.ntmps38
  go_wp2_with fail
  go_loopw [5] (fun i wr => ∃ k : Nat, k ≤ n ∧ i = .int .i64 k ∧ Below w.heap.size w wr) (fun i _ => n - (intOf i).toNat)
  case atStart => exact ⟨0, Nat.zero_le _, rfl, Below.refl _ _⟩
  case round =>
    obtain ⟨k, hk, rfl, hb⟩ := hrel
    by_cases hlt : k < n
    · obtain ⟨r, hr⟩ : ∃ r, l[k]? = some r := ⟨l[k]'(by have := HN.out; omega), List.getElem?_eq_getElem _⟩
      rcases H1.out with h | ⟨b1, o1, rfl, hs1⟩
      · subst h; simp at hr
      rcases H2.out with h | ⟨b2, o2, rfl, hs2⟩
      · subst h; simp at hr
      have p1 := (hs1.keep hb) k r hr
      have p2 := (hs2.keep hb) k r hr
      have x1 := cell_regrown p1
      have x2 := cell_regrown p2
      have g0 : (0 : Int) ≤ k := by omega
      have g : (k : Int) < n := by omega
      clear hr p1 p2 hs1 hs2 H1 H2
      generalize (r.toNat : Int) = cv at *
      go_wp2_with fail
      refine wp_region_quiet_below (by kernel_rfl) (by kernel_rfl) ?_
      repeat (go_big_quiet_step (first | fail))
      refine wpQuiet_nil ?_
      intro w2 hw2
      have hbb : Below w.heap.size w w2 := by
        obtain ⟨⟨d, os⟩, rfl⟩ := hw2
        exact hb.trans ((below_regrown wr d os).mono hb.size)
      clear x1 x2 hw2 hb
      go_wp2_with fail
      go_roundw
      case rel => exact ⟨k + 1, by omega, by go_num, hbb⟩
      case measure => simp [intOf]; omega
    · go_wp2_with fail
      go_ret
      exact ⟨rfl, hb⟩
end Go.Proofs.YthiiaefdobpjhaaGreatDoor
/-
  Rows of texts: the laws' own helpers over them.
-/
namespace Go.Proofs.YthiiaefdobpjhaaGreatDoor
open Go.ChangeShapes Go.WideShapes Go.ChangeAt Go.RowKit Go.Sort
def TAt (w : World) (b off : Nat) (l : List ByteArray) : Prop := ∀ (i : Nat) c, l[i]? = some c → w.cell? ⟨b, off + i, none⟩ = some (.string c)
theorem TAt.keep {w w' : World} {b off : Nat} {l : List ByteArray} (h : TAt w b off l) (hb : Below w.heap.size w w') : TAt w' b off l := by
  intro i c hc
  have := h i c hc
  rw [hb.cell (block_lt_of_cell this)]; exact this
def TIn (w : World) (a : Option Addr) (l : List ByteArray) : Prop := l = [] ∨ ∃ b off, a = some ⟨b, off, none⟩ ∧ TAt w b off l
theorem TIn.keep {w w' : World} {a : Option Addr} {l : List ByteArray} (h : TIn w a l) (hb : Below w.heap.size w w') : TIn w' a l := by
  rcases h with h | ⟨b, off, e, h⟩
  · exact .inl h
  · exact .inr ⟨b, off, e, h.keep hb⟩
structure TMine (W : World) (B : Nat) (l : List ByteArray) : Prop where
  at0 : TAt W B 0 l
  free : ∀ o, o < l.length → W.frozen? ⟨B, o, none⟩ = false
  lt : B < W.heap.size
theorem TMine.keep {W W' : World} {B : Nat} {l : List ByteArray} (h : TMine W B l) (hb : Below W.heap.size W W') : TMine W' B l :=
  ⟨h.at0.keep hb, fun o ho => by rw [hb.frozen (p := ⟨B, o, none⟩) h.lt]; exact h.free o ho, Nat.lt_of_lt_of_le h.lt hb.size⟩
theorem TMine.in {W : World} {B : Nat} {l : List ByteArray} (h : TMine W B l) : TIn W (some ⟨B, 0, none⟩) l := .inr ⟨B, 0, rfl, h.at0⟩
/-- How much room is left behind the texts; -1: none. -/
def szTs (left : Int) : List ByteArray → Int
  | [] => left
  | r :: l => if left - (r.size : Int) < 0 then -1 else szTs (left - (r.size : Int)) l
def szTL (left : Int) (l : List ByteArray) : Int := if left - (l.length : Int) < 0 then -1 else szTs (left - (l.length : Int)) l
theorem szTs_le (l : List ByteArray) : ∀ left, szTs left l ≤ left ∨ szTs left l = -1 := by
  induction l with
  | nil => intro left; exact .inl (Int.le_refl _)
  | cons r l ih =>
    intro left
    rw [szTs]
    split
    · exact .inr rfl
    · rcases ih (left - (r.size : Int)) with h | h
      · left; omega
      · exact .inr h
theorem szTL_room {left : Int} {l : List ByteArray} (hl : left ≤ 1048576) (hz : ¬ szTL left l < 0) : l.length ≤ 1048576 ∧ ∀ x ∈ l, x.size ≤ 1048576 := by
  unfold szTL at hz
  by_cases c : left - (l.length : Int) < 0
  · rw [if_pos c] at hz; omega
  · rw [if_neg c] at hz
    refine ⟨by omega, ?_⟩
    have : ∀ (l : List ByteArray) (left : Int), left ≤ 1048576 → ¬ szTs left l < 0 → ∀ x ∈ l, x.size ≤ 1048576 := fun l => by
      induction l with
      | nil => intro _ _ _ x hx; cases hx
      | cons r l ih =>
        intro left h1 h2 x hx
        rw [szTs] at h2
        by_cases c : left - (r.size : Int) < 0
        · rw [if_pos c] at h2; omega
        · rw [if_neg c] at h2
          rcases List.mem_cons.1 hx with rfl | hx
          · omega
          · exact ih _ (by omega) h2 x hx
    exact this l _ (by omega) hz
theorem infoTextR : (Tryz.prog.info? 9).map (fun i => (i.zero, i.size, i.bytes)) = some (some (.string ⟨#[]⟩), 1, 16) := by kernel_rfl
theorem TAt.put {w : World} {G : Nat} {l : List ByteArray} {k n : Nat} {c : ByteArray} (h : TAt w G 0 (l.take k)) (hr : l[k]? = some c) (hm : HRoom w G n) (hk : k < n) : TAt (w.setCell ⟨G, k, none⟩ (.string c)) G 0 (l.take (k + 1)) := by
  intro i q hq
  have hi : i < k + 1 := by
    have := (List.getElem?_eq_some_iff.1 hq).1
    simp at this; omega
  rw [List.getElem?_take_of_lt hi] at hq
  simp only [Nat.zero_add]
  by_cases e : i = k
  · subst e
    rw [hr] at hq
    obtain rfl := Option.some.inj hq
    obtain ⟨⟨u0, g0⟩, _⟩ := hm i (by omega)
    exact World.cell?_setCell_same _ _ _ g0
  · have hq2 : (l.take k)[i]? = some q := by rw [List.getElem?_take_of_lt (by omega)]; exact hq
    have a1 := h i q hq2
    simp only [Nat.zero_add] at a1
    rw [World.cell?_setCell_other _ _ _ _ (hoff_ne (by omega))]; exact a1
end Go.Proofs.YthiiaefdobpjhaaGreatDoor
/-
  Entries of a store, as they lie in memory.
-/
namespace Go.Proofs.YthiiaefdobpjhaaGreatDoor
open Go.ChangeShapes Go.WideShapes Go.ChangeAt Go.RowKit Go.Sort
/-- An entry, plainly. -/
structure Ent where
  key : ByteArray
  st : Int
  hs : List Hdr
  bl : List UInt8
  t : Int
  g : Int
  l : Int
  s : Int
  e : Int
  b1 : Bool
  b2 : Bool
  ts : List ByteArray
  pins : Int
/-- Where its lists lie. -/
structure EntR where
  ha : Option Addr
  hc : Nat
  ba : Option Addr
  bc : Nat
  ta : Option Addr
  tc : Nat
def entW (x : Ent) (r : EntR) : List Value := [.string x.key, .int .i64 x.st, .slice r.ha x.hs.length r.hc, .slice r.ba x.bl.length r.bc, .int .i64 x.t, .int .i64 x.g, .int .i64 x.l, .int .i64 x.s, .int .i64 x.e, .bool x.b1, .bool x.b2, .slice r.ta x.ts.length r.tc, .int .i64 x.pins]
def entV (x : Ent) (r : EntR) : Value := .agg (entW x r).toArray
/-- Its lists, in a world. -/
structure EntIn (w : World) (x : Ent) (r : EntR) : Prop where
  h : HdsIn w r.ha x.hs
  b : BIn w r.ba x.bl
  k : TIn w r.ta x.ts
  hc : x.hs.length ≤ r.hc
  bc : x.bl.length ≤ r.bc
  tc : x.ts.length ≤ r.tc
theorem EntIn.keep {w w' : World} {x : Ent} {r : EntR} (k : EntIn w x r) (hb : Below w.heap.size w w') : EntIn w' x r := ⟨k.h.keep hb, k.b.keep hb, k.k.keep hb, k.hc, k.bc, k.tc⟩
/-- Entries one behind the other: thirteen cells each. -/
def EntsAt (w : World) (b off : Nat) (l : List (Ent × EntR)) : Prop := ∀ (i : Nat) q, l[i]? = some q → (∀ j, j < 13 → w.cell? ⟨b, off + i * 13 + j, none⟩ = (entW q.1 q.2)[j]?) ∧ EntIn w q.1 q.2
theorem EntsAt.keep {w w' : World} {b off : Nat} {l : List (Ent × EntR)} (h : EntsAt w b off l) (hb : Below w.heap.size w w') : EntsAt w' b off l := by
  intro i q hq
  obtain ⟨h1, h2⟩ := h i q hq
  refine ⟨fun j hj => ?_, h2.keep hb⟩
  have c := h1 j hj
  have hlt : b < w.heap.size := by
    have c0 := h1 0 (by omega)
    exact block_lt_of_cell (c0.trans rfl)
  rw [hb.cell (p := ⟨b, off + i * 13 + j, none⟩) hlt]
  exact c
def EntsIn (w : World) (a : Option Addr) (l : List (Ent × EntR)) : Prop := l = [] ∨ ∃ b off, a = some ⟨b, off, none⟩ ∧ EntsAt w b off l
theorem EntsIn.keep {w w' : World} {a : Option Addr} {l : List (Ent × EntR)} (h : EntsIn w a l) (hb : Below w.heap.size w w') : EntsIn w' a l := by
  rcases h with h | ⟨b, off, e, h⟩
  · exact .inl h
  · exact .inr ⟨b, off, e, h.keep hb⟩
/-- Sizes that came in. -/
structure EntSm (x : Ent) : Prop where
  key : x.key.size ≤ maxLen
  hl : x.hs.length ≤ maxLen
  hs : SmallHdrs x.hs
  bl : x.bl.length ≤ maxLen
  tl : x.ts.length ≤ maxLen
  ts : ∀ t ∈ x.ts, t.size ≤ maxLen
end Go.Proofs.YthiiaefdobpjhaaGreatDoor
/-
  Copies of head lines, bytes and texts, by the model.
-/
namespace Go.Proofs.YthiiaefdobpjhaaGreatDoor
open Go.ChangeShapes Go.WideShapes Go.ChangeAt Go.RowKit Go.Sort
theorem cHeadI : (Tryz.prog.info? 73).map (fun i => (i.zero, i.size, i.bytes)) = some (some (.agg #[.string ⟨#[]⟩, .string ⟨#[]⟩]), 2, 32) := by kernel_rfl
theorem cByteI : (Tryz.prog.info? 5).map (fun i => (i.zero, i.size, i.bytes)) = some (some (.int .u8 0), 1, 1) := by kernel_rfl
theorem cTextI : (Tryz.prog.info? 9).map (fun i => (i.zero, i.size, i.bytes)) = some (some (.string ⟨#[]⟩), 1, 16) := by kernel_rfl
def cBytes (l : List UInt8) : List Value := l.map fun c => Value.int .u8 (c.toNat : Int)
def cTexts (l : List ByteArray) : List Value := l.map Value.string
def RowB (w : World) (base : Nat) (v : Value) (l : List UInt8) : Prop := w.ownsRow base 5 1 v l.length (cBytes l)
def RowT (w : World) (base : Nat) (v : Value) (l : List ByteArray) : Prop := w.ownsRow base 9 1 v l.length (cTexts l)
def RowH (w : World) (base : Nat) (v : Value) (l : List Hdr) : Prop := w.ownsRow base 73 2 v l.length (hdrsW l)
theorem cadd (b off j : Nat) : (⟨b, off, none⟩ : Addr).add j = ⟨b, off + j, none⟩ := by unfold Addr.add; split <;> simp_all
theorem cBytes_in {w : World} {a : Option Addr} {l : List UInt8} (h : BIn w a l) : l.length = 0 ∨ ∃ ad, a = some ad ∧ ∀ j u, (cBytes l)[j]? = some u → w.cell? (ad.add j) = some u := by
  rcases h with rfl | ⟨b, off, rfl, h⟩
  · exact .inl rfl
  · refine .inr ⟨_, rfl, fun j u hj => ?_⟩
    unfold cBytes at hj
    rw [List.getElem?_map] at hj
    obtain ⟨c, hc, rfl⟩ := Option.map_eq_some_iff.1 hj
    rw [cadd]
    exact h j c hc
theorem cTexts_in {w : World} {a : Option Addr} {l : List ByteArray} (h : TIn w a l) : l.length = 0 ∨ ∃ ad, a = some ad ∧ ∀ j u, (cTexts l)[j]? = some u → w.cell? (ad.add j) = some u := by
  rcases h with rfl | ⟨b, off, rfl, h⟩
  · exact .inl rfl
  · refine .inr ⟨_, rfl, fun j u hj => ?_⟩
    unfold cTexts at hj
    rw [List.getElem?_map] at hj
    obtain ⟨c, hc, rfl⟩ := Option.map_eq_some_iff.1 hj
    rw [cadd]
    exact h j c hc
theorem cHeads_in {w : World} {a : Option Addr} {l : List Hdr} (h : HdsIn w a l) : l.length = 0 ∨ ∃ ad, a = some ad ∧ ∀ j u, (hdrsW l)[j]? = some u → w.cell? (ad.add j) = some u := by
  rcases h with rfl | ⟨b, off, rfl, h⟩
  · exact .inl rfl
  · refine .inr ⟨_, rfl, fun j u hj => ?_⟩
    rw [cadd]
    have hlt : j < (hdrsW l).length := (List.getElem?_eq_some_iff.1 hj).1
    rw [hdrsW_len] at hlt
    obtain ⟨r, hr⟩ : ∃ r, l[j / 2]? = some r := ⟨l[j / 2]'(by omega), List.getElem?_eq_getElem _⟩
    obtain ⟨e0, e1⟩ := hdrsW_at l (j / 2) r hr
    obtain ⟨c0, c1⟩ := h (j / 2) r hr
    rcases Nat.mod_two_eq_zero_or_one j with hm | hm
    · have ej : j / 2 * 2 = j := by omega
      rw [ej] at e0 c0
      rw [e0] at hj
      rw [← hj]; exact c0
    · have ej : j / 2 * 2 + 1 = j := by omega
      rw [ej] at e1
      rw [Nat.add_assoc, ej] at c1
      rw [e1] at hj
      rw [← hj]; exact c1
theorem cOneB (l : List UInt8) : ∀ u ∈ cBytes l, u.oneCell' = true := fun u hu => by obtain ⟨c, _, rfl⟩ := List.mem_map.1 hu; rfl
theorem cOneT (l : List ByteArray) : ∀ u ∈ cTexts l, u.oneCell' = true := fun u hu => by obtain ⟨c, _, rfl⟩ := List.mem_map.1 hu; rfl
theorem cOneH (l : List Hdr) : ∀ u ∈ hdrsW l, u.oneCell' = true := by
  intro u hu
  simp only [hdrsW, List.mem_flatMap] at hu
  obtain ⟨r, _, hr⟩ := hu
  simp only [hdrW, List.mem_cons, List.not_mem_nil, or_false] at hr
  rcases hr with rfl | rfl <;> rfl
theorem RowB.in {w : World} {base : Nat} {v : Value} {l : List UInt8} (h : RowB w base v l) : ∃ a c, v = .slice a l.length c ∧ l.length ≤ c ∧ BIn w a l := by
  have h0 := h
  obtain ⟨_, h1 | ⟨g, c, cur, rfl, _, _, hc, _⟩⟩ := h
  · have e : l = [] := List.eq_nil_of_length_eq_zero h1.2
    subst e
    exact ⟨none, 0, h1.1, Nat.le_refl _, .inl rfl⟩
  · refine ⟨_, c, rfl, hc, .inr ⟨g, 0, rfl, fun i q hq => ?_⟩⟩
    have hi := (List.getElem?_eq_some_iff.1 hq).1
    have c1 := World.ownsRow.cellAt h0 i (by omega)
    rw [Nat.zero_add, c1]
    unfold cBytes
    rw [List.getElem?_map, hq]
    rfl
theorem RowT.in {w : World} {base : Nat} {v : Value} {l : List ByteArray} (h : RowT w base v l) : ∃ a c, v = .slice a l.length c ∧ l.length ≤ c ∧ TIn w a l := by
  have h0 := h
  obtain ⟨_, h1 | ⟨g, c, cur, rfl, _, _, hc, _⟩⟩ := h
  · have e : l = [] := List.eq_nil_of_length_eq_zero h1.2
    subst e
    exact ⟨none, 0, h1.1, Nat.le_refl _, .inl rfl⟩
  · refine ⟨_, c, rfl, hc, .inr ⟨g, 0, rfl, fun i q hq => ?_⟩⟩
    have hi := (List.getElem?_eq_some_iff.1 hq).1
    have c1 := World.ownsRow.cellAt h0 i (by omega)
    rw [Nat.zero_add, c1]
    unfold cTexts
    rw [List.getElem?_map, hq]
    rfl
theorem RowH.in {w : World} {base : Nat} {v : Value} {l : List Hdr} (h : RowH w base v l) : ∃ a c, v = .slice a l.length c ∧ l.length ≤ c ∧ HdsIn w a l := by
  have hf := row_form h
  obtain ⟨va, vc, e, hle⟩ := hf
  obtain ⟨a, c, e2, hi⟩ := OwnH.at (w := w) (base := base) (v := v) (l := l) h
  rw [e] at e2
  simp only [Value.slice.injEq, true_and] at e2
  obtain ⟨rfl, rfl⟩ := e2
  exact ⟨va, vc, e, hle, hi⟩
end Go.Proofs.YthiiaefdobpjhaaGreatDoor
/-
  markText: a text of its own for each number.
-/
namespace Go.Proofs.YthiiaefdobpjhaaGreatDoor
open Go.ChangeShapes Go.WideShapes Go.ChangeAt Go.RowKit
def mkD (k : Nat) (o : ByteArray) : ByteArray := if _h : k = 0 then o else mkD (k / 10) ((⟨#[UInt8.ofNat (48 + k % 10)]⟩ : ByteArray) ++ o)
termination_by k
decreasing_by omega
theorem mkD_zero (o : ByteArray) : mkD 0 o = o := by rw [mkD]; simp
theorem mkD_more {k : Nat} (h : k ≠ 0) (o : ByteArray) : mkD k o = mkD (k / 10) ((⟨#[UInt8.ofNat (48 + k % 10)]⟩ : ByteArray) ++ o) := by rw [mkD, dif_neg h]
def mkT (k : Nat) : ByteArray := (⟨#[109]⟩ : ByteArray) ++ mkD k ⟨#[]⟩
theorem one_byteM (c : Int) (x : UInt8) (hx : (x.toNat : Int) = c) (W : World) (B cap : Nat) (hc : W.cell? ⟨B, 0, none⟩ = some (.int .u8 c)) :
    (convert 25 9 (.slice (some ⟨B, 0, none⟩) 1 cap)).run Tryz.prog W = .ok (.string ⟨#[x]⟩) W := by
  have := run_convert_bytes_back (P := Tryz.prog) W 25 9 5 ⟨B, 0, none⟩ cap [x] Tryz.underlying25 Tryz.underlying5 Tryz.underlying9 (fun j hj => by
    obtain rfl : j = 0 := by simp at hj; omega
    simp [Addr.add, hc, hx])
  simpa using this
end Go.Proofs.YthiiaefdobpjhaaGreatDoor
/-
  All that was there, but for one block, is as it was.
-/
namespace Go.Proofs.YthiiaefdobpjhaaGreatDoor
open Go.ChangeShapes Go.WideShapes Go.ChangeAt Go.RowKit
/-- All that was there, but for block B, is as it was. -/
structure Apart (B : Nat) (w w' : World) : Prop where
  size : w.heap.size ≤ w'.heap.size
  cell : ∀ b o, b < w.heap.size → b ≠ B → w'.cell? ⟨b, o, none⟩ = w.cell? ⟨b, o, none⟩
  frozen : ∀ b o, b < w.heap.size → b ≠ B → w'.frozen? ⟨b, o, none⟩ = w.frozen? ⟨b, o, none⟩
theorem Apart.refl (B : Nat) (w : World) : Apart B w w := ⟨Nat.le_refl _, fun _ _ _ _ => rfl, fun _ _ _ _ => rfl⟩
theorem Apart.trans {B : Nat} {w w1 w2 : World} (h : Apart B w w1) (k : Apart B w1 w2) : Apart B w w2 :=
  ⟨Nat.le_trans h.size k.size, fun b o hb hn => by rw [k.cell b o (Nat.lt_of_lt_of_le hb h.size) hn, h.cell b o hb hn], fun b o hb hn => by rw [k.frozen b o (Nat.lt_of_lt_of_le hb h.size) hn, h.frozen b o hb hn]⟩
theorem Apart.below {B : Nat} {w w' : World} (h : Below w.heap.size w w') : Apart B w w' :=
  ⟨h.size, fun b o hb _ => h.cell (p := ⟨b, o, none⟩) hb, fun b o hb _ => h.frozen (p := ⟨b, o, none⟩) hb⟩
theorem Apart.alloc (B : Nat) (w : World) (o : Obj) : Apart B w (w.alloc o) := .below ((Below.refl _ _).alloc (Nat.le_refl _) _)
theorem Apart.set (B o : Nat) (w : World) (v : Value) : Apart B w (w.setCell ⟨B, o, none⟩ v) := by
  refine ⟨by simp, fun b o' _ hn => ?_, fun b o' _ hn => ?_⟩
  · rw [World.cell?_setCell_other _ _ _ _ (by intro h; have := congrArg Addr.block h; simp at this; omega)]
  · rw [World.frozen?_setCell]
end Go.Proofs.YthiiaefdobpjhaaGreatDoor
/-
  markHeaderS and heldHeaderS: marks laid into head lines, and found again.
-/
namespace Go.Proofs.YthiiaefdobpjhaaGreatDoor
open Go.ChangeShapes Go.WideShapes Go.ChangeAt Go.RowKit Go.Sort
def mkHR (k : Nat) (j : Nat) : Hdr := ⟨mkT (k + 2 * j), mkT (k + 2 * j + 1)⟩
def mkHL (k n : Nat) : List Hdr := (List.range n).map (mkHR k)
theorem mkHL_len (k n : Nat) : (mkHL k n).length = n := by simp [mkHL]
theorem mkHL_get {k n i : Nat} (h : i < n) : (mkHL k n)[i]? = some (mkHR k i) := by simp [mkHL, h]
theorem hcell_set_same {w : World} {g o : Nat} {u v : Value} (h : w.cell? ⟨g, o, none⟩ = some u) : (w.setCell ⟨g, o, none⟩ v).cell? ⟨g, o, none⟩ = some v := World.cell?_setCell_same _ _ _ h
theorem hcell_set_off {w : World} {g o o' : Nat} {v : Value} (h : o ≠ o') : (w.setCell ⟨g, o', none⟩ v).cell? ⟨g, o, none⟩ = w.cell? ⟨g, o, none⟩ :=
  World.cell?_setCell_other _ _ _ _ (by intro e; have := congrArg Addr.off e; simp at this; omega)
/-- One field of one line written. -/
theorem hput_name {w : World} {g off i : Nat} {L : List Hdr} {r : Hdr} (h : HeadsAt w g off L) (hr : L[i]? = some r) (n : ByteArray) :
    HeadsAt (w.setCell ⟨g, off + i * 2, none⟩ (.string n)) g off (L.set i { r with name := n }) := by
  intro j q hq
  by_cases e : j = i
  · subst e
    have hl := (List.getElem?_eq_some_iff.1 hr).1
    rw [List.getElem?_set_self hl] at hq
    obtain rfl := Option.some.inj hq
    obtain ⟨a, c⟩ := h j r hr
    exact ⟨hcell_set_same a, by rw [hcell_set_off (by omega)]; exact c⟩
  · rw [List.getElem?_set_ne (fun k => e k.symm)] at hq
    obtain ⟨a, c⟩ := h j q hq
    exact ⟨by rw [hcell_set_off (by omega)]; exact a, by rw [hcell_set_off (by omega)]; exact c⟩
theorem hput_value {w : World} {g off i : Nat} {L : List Hdr} {r : Hdr} (h : HeadsAt w g off L) (hr : L[i]? = some r) (n : ByteArray) :
    HeadsAt (w.setCell ⟨g, off + i * 2 + 1, none⟩ (.string n)) g off (L.set i { r with value := n }) := by
  intro j q hq
  by_cases e : j = i
  · subst e
    have hl := (List.getElem?_eq_some_iff.1 hr).1
    rw [List.getElem?_set_self hl] at hq
    obtain rfl := Option.some.inj hq
    obtain ⟨a, c⟩ := h j r hr
    exact ⟨by rw [hcell_set_off (by omega)]; exact a, hcell_set_same c⟩
  · rw [List.getElem?_set_ne (fun k => e k.symm)] at hq
    obtain ⟨a, c⟩ := h j q hq
    exact ⟨by rw [hcell_set_off (by omega)]; exact a, by rw [hcell_set_off (by omega)]; exact c⟩
/-- The state of the marking loop: j lines are marked. -/
structure HMarked (w : World) (g off : Nat) (k n j : Nat) (L : List Hdr) (W : World) : Prop where
  len : L.length = n
  done : ∀ i, i < j → L[i]? = some (mkHR k i)
  items : HeadsAt W g off L
  thaw : ∀ o, W.frozen? ⟨g, o, none⟩ = false
  apart : Apart g w W
  low : Below g w W
  lt : g < W.heap.size
theorem HMarked.below {w : World} {g off k n j : Nat} {L : List Hdr} {W W' : World} (h : HMarked w g off k n j L W) (hb : Below W.heap.size W W') : HMarked w g off k n j L W' :=
  ⟨h.len, h.done, h.items.keep hb, fun o => by rw [hb.frozen (p := ⟨g, o, none⟩) h.lt, h.thaw], h.apart.trans (.below hb), h.low.trans (hb.mono (Nat.le_of_lt h.lt)), Nat.lt_of_lt_of_le h.lt hb.size⟩
theorem HMarked.set {w : World} {g off k n j o : Nat} {L L' : List Hdr} {W : World} {v : Value} (h : HMarked w g off k n j L W) (hl : L'.length = L.length) (hd : ∀ i, i < j → L'[i]? = L[i]?) (hi : HeadsAt (W.setCell ⟨g, o, none⟩ v) g off L') : HMarked w g off k n j L' (W.setCell ⟨g, o, none⟩ v) :=
  ⟨hl.trans h.len, fun i hi => (hd i hi).trans (h.done i hi), hi, fun o => by rw [World.frozen?_setCell, h.thaw], h.apart.trans (.set _ _ _ _), h.low.setCell (Nat.le_refl _) _, by simpa using h.lt⟩
end Go.Proofs.YthiiaefdobpjhaaGreatDoor
/-
  markHeaderS and heldHeaderS.
-/
namespace Go.Proofs.YthiiaefdobpjhaaGreatDoor
open Go.ChangeShapes Go.WideShapes Go.ChangeAt Go.RowKit Go.Sort
end Go.Proofs.YthiiaefdobpjhaaGreatDoor
/-
  The laws' comparing of two lists of items that are alike.
-/
namespace Go.Proofs.YthiiaefdobpjhaaGreatDoor
open Go.ChangeShapes Go.WideShapes Go.ChangeAt Go.RowKit Go.Sort
set_option maxRecDepth 100000 in
set_option maxHeartbeats 2000000 in
theorem eqHeaderS_same (w : World) (b1 o1 b2 o2 c1 c2 : Nat) (l : List Hdr) (hl : l.length ≤ 1048576) (h1 : HeadsAt w b1 o1 l) (h2 : HeadsAt w b2 o2 l) :
    Calls Tryz.prog 37 #[.slice (some ⟨b1, o1, none⟩) l.length c1, .slice (some ⟨b2, o2, none⟩) l.length c2] w fun e w' => e = .returned (.bool true) ∧ Below w.heap.size w w' := by
  have H1 : Hid (HeadsAt w b1 o1 l) := h1
  have H2 : Hid (HeadsAt w b2 o2 l) := h2
  clear h1 h2
  generalize hn : l.length = n at *
  have HN : Hid (l.length = n) := hn
  clear hn
  go_enter Tryz.func37, Tryz.ntmps37
  go_wp2_with fail
  go_loopw [5] (fun i wr => ∃ k : Nat, k ≤ n ∧ i = .int .i64 k ∧ Below w.heap.size w wr) (fun i _ => n - (intOf i).toNat)
  case atStart => exact ⟨0, Nat.zero_le _, rfl, Below.refl _ _⟩
  case round =>
    obtain ⟨k, hk, rfl, hb⟩ := hrel
    by_cases hlt : k < n
    · obtain ⟨r, hr⟩ : ∃ r, l[k]? = some r := ⟨l[k]'(by have := HN.out; omega), List.getElem?_eq_getElem _⟩
      obtain ⟨p1, p3⟩ := (H1.out.keep hb) k r hr
      obtain ⟨q1, q3⟩ := (H2.out.keep hb) k r hr
      have x1 := cell_regrown p1
      have x3 := cell_regrown p3
      have y1 := cell_regrown q1
      have y3 := cell_regrown q3
      have cE : ∀ d os, Calls Tryz.prog 51 #[.agg #[.string r.name, .string r.value], .agg #[.string r.name, .string r.value]] (grow (redrawn wr d) os) fun e w'' => e = .returned (.bool true) ∧ ∃ p : Regrown, w'' = grow (redrawn wr p.d) p.os := fun d os => Calls.regrown_of (eqHeader_same r _)
      have g0 : (0 : Int) ≤ k := by omega
      have g : (k : Int) < n := by omega
      clear hr p1 p3 q1 q3
      generalize r.name = rn at *
      generalize r.value = rv at *
      go_wp2_with fail
      refine wp_region_quiet_below (by kernel_rfl) (by kernel_rfl) ?_
      repeat (go_big_quiet_step ((go_at_call 51; exact cE _ _)))
      refine wpQuiet_nil ?_
      intro w2 hw2
      have hbb : Below w.heap.size w w2 := by
        obtain ⟨⟨d, os⟩, rfl⟩ := hw2
        exact hb.trans ((below_regrown wr d os).mono hb.size)
      clear x1 x3 y1 y3 cE hw2 hb
      go_wp2_with fail
      go_roundw
      case rel => exact ⟨k + 1, by omega, by go_num, hbb⟩
      case measure => simp [intOf]; omega
    · go_wp2_with fail
      go_ret
      exact ⟨rfl, hb⟩
end Go.Proofs.YthiiaefdobpjhaaGreatDoor
/-
  Head lines as a value: compared, marked, held.
-/
namespace Go.Proofs.YthiiaefdobpjhaaGreatDoor
open Go.ChangeShapes Go.WideShapes Go.ChangeAt Go.RowKit Go.Sort
def HLV (w : World) (v : Value) (l : List Hdr) : Prop :=
  (v = .slice none 0 0 ∧ l = []) ∨ ∃ g cap, v = .slice (some ⟨g, 0, none⟩) l.length cap ∧ g < w.heap.size ∧ HeadsAt w g 0 l ∧ ∀ o, w.frozen? ⟨g, o, none⟩ = false
theorem OwnH.lv {w : World} {base : Nat} {v : Value} {l : List Hdr} (h : OwnH w base v l) : HLV w v l ∧ ∀ b, v.ownBlock = some b → base ≤ b := by
  have h0 := h
  obtain ⟨_, h1 | ⟨g, c, cur, rfl, hg, hh, _⟩⟩ := h
  · have e : l = [] := List.eq_nil_of_length_eq_zero h1.2
    exact ⟨.inl ⟨h1.1, e⟩, fun b hb => by rw [h1.1] at hb; cases hb⟩
  · refine ⟨.inr ⟨g, c, rfl, (Array.getElem?_eq_some_iff.1 hh).1, ?_, fun o => ?_⟩, fun b hb => ?_⟩
    · obtain ⟨a, c', e, hi⟩ := h0.at
      rcases hi with rfl | ⟨b, off, rfl, hat⟩
      · intro i r hr; simp at hr
      · simp only [Value.slice.injEq, Option.some.injEq] at e
        obtain ⟨e, _⟩ := e
        have e1 := congrArg Addr.block e
        have e2 := congrArg Addr.off e
        simp only at e1 e2
        rw [e1, e2]
        exact hat
    · simp [World.frozen?, hh]
    · simp only [Value.ownBlock, Option.some.injEq] at hb; omega
theorem HLV.below {w w' : World} {v : Value} {l : List Hdr} (h : HLV w v l) (hb : Below w.heap.size w w') : HLV w' v l := by
  rcases h with h | ⟨g, c, e, hg, hi, hf⟩
  · exact .inl h
  · exact .inr ⟨g, c, e, Nat.lt_of_lt_of_le hg hb.size, hi.keep hb, fun o => by rw [hb.frozen (p := ⟨g, o, none⟩) hg, hf]⟩
/-- All that was there, but for the memory of v, is as it was. -/
structure HAV (v : Value) (w w' : World) : Prop where
  size : w.heap.size ≤ w'.heap.size
  cell : ∀ b o, b < w.heap.size → v.ownBlock ≠ some b → w'.cell? ⟨b, o, none⟩ = w.cell? ⟨b, o, none⟩
  frozen : ∀ b o, b < w.heap.size → v.ownBlock ≠ some b → w'.frozen? ⟨b, o, none⟩ = w.frozen? ⟨b, o, none⟩
theorem HAV.below {v : Value} {w w' : World} (h : Below w.heap.size w w') : HAV v w w' :=
  ⟨h.size, fun b o hb _ => h.cell (p := ⟨b, o, none⟩) hb, fun b o hb _ => h.frozen (p := ⟨b, o, none⟩) hb⟩
theorem HLV.av {w w' : World} {v v1 : Value} {l : List Hdr} (h : HLV w v1 l) (k : HAV v w w') (hne : ∀ b, v1.ownBlock = some b → v.ownBlock ≠ some b) : HLV w' v1 l := by
  rcases h with h | ⟨g, c, rfl, hg, hi, hf⟩
  · exact .inl h
  · have hn := hne g rfl
    exact .inr ⟨g, c, rfl, Nat.lt_of_lt_of_le hg k.size, fun i r hr => by rw [k.cell g _ hg hn, k.cell g _ hg hn]; exact hi i r hr, fun o => by rw [k.frozen g o hg hn, hf]⟩
set_option maxHeartbeats 1000000 in
theorem eqHeaderS_nil (w : World) (a b : Option Addr) (c d : Nat) :
    Calls Tryz.prog 37 #[.slice a 0 c, .slice b 0 d] w fun e w' => e = .returned (.bool true) ∧ Below w.heap.size w w' := by
  go_enter Tryz.func37, Tryz.ntmps37
  go_wp2_with fail
  go_loop [5] (fun i => i = .int .i64 0) (fun _ => 0)
  case atStart => rfl
  case round =>
    obtain rfl := hrel
    go_wp2_with fail
    go_ret
    exact ⟨rfl, Below.refl _ _⟩
theorem eqHeaderS_lv (w : World) (v1 v2 : Value) (l : List Hdr) (hl : l.length ≤ 1048576) (h1 : HLV w v1 l) (h2 : HLV w v2 l) :
    Calls Tryz.prog 37 #[v1, v2] w fun e w' => e = .returned (.bool true) ∧ Below w.heap.size w w' := by
  rcases h1 with ⟨rfl, rfl⟩ | ⟨g, c, rfl, _, hi, _⟩
  · rcases h2 with ⟨rfl, _⟩ | ⟨g, c, rfl, _, _, _⟩
    · exact eqHeaderS_nil w _ _ _ _
    · exact eqHeaderS_nil w _ _ _ _
  · rcases h2 with ⟨rfl, rfl⟩ | ⟨g', c', rfl, _, hi', _⟩
    · exact eqHeaderS_nil w _ _ _ _
    · exact eqHeaderS_same w g 0 g' 0 c c' l hl hi hi'
end Go.Proofs.YthiiaefdobpjhaaGreatDoor
/-
  Rows of head lines as facts that hang on a stretch of blocks.
-/
namespace Go.Proofs.YthiiaefdobpjhaaGreatDoor
open Go.ChangeShapes Go.WideShapes Go.ChangeAt Go.RowKit Go.Sort
def HL (v : Value) (l : List Hdr) (lo hi : Nat) (X : World) : Prop := HLV X v l ∧ ∀ b, v.ownBlock = some b → lo ≤ b ∧ b < hi
theorem HL.dep (v : Value) (l : List Hdr) (lo hi : Nat) : Dep lo hi (HL v l lo hi) := fun X X' h1 h2 hc k => by
  refine ⟨?_, k.2⟩
  rcases k.1 with e | ⟨g, c, rfl, hg, hi', hf⟩
  · exact .inl e
  · obtain ⟨b1, b2⟩ := k.2 g rfl
    exact .inr ⟨g, c, rfl, Nat.lt_of_lt_of_le hg h2, fun i r hr => by rw [(hc g _ b1 b2).1, (hc g _ b1 b2).1]; exact hi' i r hr, fun o => by rw [(hc g o b1 b2).2, hf]⟩
theorem HL.wide {v : Value} {l : List Hdr} {lo hi lo' hi' : Nat} {X : World} (k : HL v l lo hi X) (h1 : lo' ≤ lo) (h2 : hi ≤ hi') : HL v l lo' hi' X := ⟨k.1, fun b hb => by have := k.2 b hb; omega⟩
theorem RowH.at {w : World} {base : Nat} {v : Value} {l : List Hdr} (h : RowH w base v l) : At base w.heap.size (HL v l) w :=
  ⟨Nat.le_refl _, HL.dep _ _ _ _, (OwnH.lv h).1, fun b hb => ⟨(OwnH.lv h).2 b hb, (World.ownsRow.lt h b hb).2⟩⟩
theorem HL.in {v : Value} {l : List Hdr} {lo hi : Nat} {X : World} {a : Option Addr} {n c : Nat} (k : HL v l lo hi X) (e : v = .slice a n c) : n = l.length ∧ HdsIn X a l := by
  subst e
  rcases k.1 with ⟨e, rfl⟩ | ⟨g, c', e, _, h, _⟩
  · simp only [Value.slice.injEq] at e
    obtain ⟨rfl, rfl, rfl⟩ := e
    exact ⟨rfl, .inl rfl⟩
  · simp only [Value.slice.injEq] at e
    obtain ⟨rfl, rfl, rfl⟩ := e
    exact ⟨rfl, .inr ⟨g, 0, rfl, h⟩⟩
end Go.Proofs.YthiiaefdobpjhaaGreatDoor
/-
  Thirteen cells that may be written.
-/
namespace Go.Proofs.YthiiaefdobpjhaaGreatDoor
open Go.ChangeShapes Go.WideShapes Go.ChangeAt Go.RowKit
structure E13 (w : World) (b : Nat) (v0 v1 v2 v3 v4 v5 v6 v7 v8 v9 v10 v11 v12 : Value) : Prop where
  c0 : w.cell? ⟨b, 0, none⟩ = some v0
  c1 : w.cell? ⟨b, 1, none⟩ = some v1
  c2 : w.cell? ⟨b, 2, none⟩ = some v2
  c3 : w.cell? ⟨b, 3, none⟩ = some v3
  c4 : w.cell? ⟨b, 4, none⟩ = some v4
  c5 : w.cell? ⟨b, 5, none⟩ = some v5
  c6 : w.cell? ⟨b, 6, none⟩ = some v6
  c7 : w.cell? ⟨b, 7, none⟩ = some v7
  c8 : w.cell? ⟨b, 8, none⟩ = some v8
  c9 : w.cell? ⟨b, 9, none⟩ = some v9
  c10 : w.cell? ⟨b, 10, none⟩ = some v10
  c11 : w.cell? ⟨b, 11, none⟩ = some v11
  c12 : w.cell? ⟨b, 12, none⟩ = some v12
  fr : ∀ o, w.frozen? ⟨b, o, none⟩ = false
  lt : b < w.heap.size
section
variable {w w' : World} {b : Nat} {v0 v1 v2 v3 v4 v5 v6 v7 v8 v9 v10 v11 v12 : Value}
theorem E13.keep (k : E13 w b v0 v1 v2 v3 v4 v5 v6 v7 v8 v9 v10 v11 v12) (hb : Below w.heap.size w w') : E13 w' b v0 v1 v2 v3 v4 v5 v6 v7 v8 v9 v10 v11 v12 :=
  ⟨by rw [hb.cell (p := ⟨b, 0, none⟩) k.lt]; exact k.c0, by rw [hb.cell (p := ⟨b, 1, none⟩) k.lt]; exact k.c1, by rw [hb.cell (p := ⟨b, 2, none⟩) k.lt]; exact k.c2, by rw [hb.cell (p := ⟨b, 3, none⟩) k.lt]; exact k.c3, by rw [hb.cell (p := ⟨b, 4, none⟩) k.lt]; exact k.c4, by rw [hb.cell (p := ⟨b, 5, none⟩) k.lt]; exact k.c5, by rw [hb.cell (p := ⟨b, 6, none⟩) k.lt]; exact k.c6, by rw [hb.cell (p := ⟨b, 7, none⟩) k.lt]; exact k.c7, by rw [hb.cell (p := ⟨b, 8, none⟩) k.lt]; exact k.c8, by rw [hb.cell (p := ⟨b, 9, none⟩) k.lt]; exact k.c9, by rw [hb.cell (p := ⟨b, 10, none⟩) k.lt]; exact k.c10, by rw [hb.cell (p := ⟨b, 11, none⟩) k.lt]; exact k.c11, by rw [hb.cell (p := ⟨b, 12, none⟩) k.lt]; exact k.c12, fun o => by rw [hb.frozen (p := ⟨b, o, none⟩) k.lt]; exact k.fr o, Nat.lt_of_lt_of_le k.lt hb.size⟩
theorem E13.new (w : World) (v0 v1 v2 v3 v4 v5 v6 v7 v8 v9 v10 v11 v12 : Value) (t : TypeId) : E13 (w.alloc (.cells #[v0, v1, v2, v3, v4, v5, v6, v7, v8, v9, v10, v11, v12] t)) w.heap.size v0 v1 v2 v3 v4 v5 v6 v7 v8 v9 v10 v11 v12 := ⟨by simp, by simp, by simp, by simp, by simp, by simp, by simp, by simp, by simp, by simp, by simp, by simp, by simp, fun o => by simp, by simp⟩
theorem E13.off (k : E13 w b v0 v1 v2 v3 v4 v5 v6 v7 v8 v9 v10 v11 v12) {B i : Nat} {x : Value} (h : B ≠ b) : E13 (w.setCell ⟨B, i, none⟩ x) b v0 v1 v2 v3 v4 v5 v6 v7 v8 v9 v10 v11 v12 := by
  have ne : ∀ o : Nat, (⟨B, i, none⟩ : Addr) ≠ ⟨b, o, none⟩ := fun o q => h (congrArg Addr.block q)
  exact ⟨by rw [World.cell?_setCell_other _ _ _ _ (ne _)]; exact k.c0, by rw [World.cell?_setCell_other _ _ _ _ (ne _)]; exact k.c1, by rw [World.cell?_setCell_other _ _ _ _ (ne _)]; exact k.c2, by rw [World.cell?_setCell_other _ _ _ _ (ne _)]; exact k.c3, by rw [World.cell?_setCell_other _ _ _ _ (ne _)]; exact k.c4, by rw [World.cell?_setCell_other _ _ _ _ (ne _)]; exact k.c5, by rw [World.cell?_setCell_other _ _ _ _ (ne _)]; exact k.c6, by rw [World.cell?_setCell_other _ _ _ _ (ne _)]; exact k.c7, by rw [World.cell?_setCell_other _ _ _ _ (ne _)]; exact k.c8, by rw [World.cell?_setCell_other _ _ _ _ (ne _)]; exact k.c9, by rw [World.cell?_setCell_other _ _ _ _ (ne _)]; exact k.c10, by rw [World.cell?_setCell_other _ _ _ _ (ne _)]; exact k.c11, by rw [World.cell?_setCell_other _ _ _ _ (ne _)]; exact k.c12, fun o => by rw [World.frozen?_setCell]; exact k.fr o, by simpa using k.lt⟩
theorem E13.set0 (k : E13 w b v0 v1 v2 v3 v4 v5 v6 v7 v8 v9 v10 v11 v12) (x : Value) : E13 (w.setCell ⟨b, 0, none⟩ x) b x v1 v2 v3 v4 v5 v6 v7 v8 v9 v10 v11 v12 :=
  ⟨World.cell?_setCell_same _ _ _ k.c0, by rw [World.cell?_setCell_other _ _ _ _ (by intro q; have := congrArg Addr.off q; simp at this)]; exact k.c1, by rw [World.cell?_setCell_other _ _ _ _ (by intro q; have := congrArg Addr.off q; simp at this)]; exact k.c2, by rw [World.cell?_setCell_other _ _ _ _ (by intro q; have := congrArg Addr.off q; simp at this)]; exact k.c3, by rw [World.cell?_setCell_other _ _ _ _ (by intro q; have := congrArg Addr.off q; simp at this)]; exact k.c4, by rw [World.cell?_setCell_other _ _ _ _ (by intro q; have := congrArg Addr.off q; simp at this)]; exact k.c5, by rw [World.cell?_setCell_other _ _ _ _ (by intro q; have := congrArg Addr.off q; simp at this)]; exact k.c6, by rw [World.cell?_setCell_other _ _ _ _ (by intro q; have := congrArg Addr.off q; simp at this)]; exact k.c7, by rw [World.cell?_setCell_other _ _ _ _ (by intro q; have := congrArg Addr.off q; simp at this)]; exact k.c8, by rw [World.cell?_setCell_other _ _ _ _ (by intro q; have := congrArg Addr.off q; simp at this)]; exact k.c9, by rw [World.cell?_setCell_other _ _ _ _ (by intro q; have := congrArg Addr.off q; simp at this)]; exact k.c10, by rw [World.cell?_setCell_other _ _ _ _ (by intro q; have := congrArg Addr.off q; simp at this)]; exact k.c11, by rw [World.cell?_setCell_other _ _ _ _ (by intro q; have := congrArg Addr.off q; simp at this)]; exact k.c12, fun o => by rw [World.frozen?_setCell]; exact k.fr o, by simpa using k.lt⟩
theorem E13.set1 (k : E13 w b v0 v1 v2 v3 v4 v5 v6 v7 v8 v9 v10 v11 v12) (x : Value) : E13 (w.setCell ⟨b, 1, none⟩ x) b v0 x v2 v3 v4 v5 v6 v7 v8 v9 v10 v11 v12 :=
  ⟨by rw [World.cell?_setCell_other _ _ _ _ (by intro q; have := congrArg Addr.off q; simp at this)]; exact k.c0, World.cell?_setCell_same _ _ _ k.c1, by rw [World.cell?_setCell_other _ _ _ _ (by intro q; have := congrArg Addr.off q; simp at this)]; exact k.c2, by rw [World.cell?_setCell_other _ _ _ _ (by intro q; have := congrArg Addr.off q; simp at this)]; exact k.c3, by rw [World.cell?_setCell_other _ _ _ _ (by intro q; have := congrArg Addr.off q; simp at this)]; exact k.c4, by rw [World.cell?_setCell_other _ _ _ _ (by intro q; have := congrArg Addr.off q; simp at this)]; exact k.c5, by rw [World.cell?_setCell_other _ _ _ _ (by intro q; have := congrArg Addr.off q; simp at this)]; exact k.c6, by rw [World.cell?_setCell_other _ _ _ _ (by intro q; have := congrArg Addr.off q; simp at this)]; exact k.c7, by rw [World.cell?_setCell_other _ _ _ _ (by intro q; have := congrArg Addr.off q; simp at this)]; exact k.c8, by rw [World.cell?_setCell_other _ _ _ _ (by intro q; have := congrArg Addr.off q; simp at this)]; exact k.c9, by rw [World.cell?_setCell_other _ _ _ _ (by intro q; have := congrArg Addr.off q; simp at this)]; exact k.c10, by rw [World.cell?_setCell_other _ _ _ _ (by intro q; have := congrArg Addr.off q; simp at this)]; exact k.c11, by rw [World.cell?_setCell_other _ _ _ _ (by intro q; have := congrArg Addr.off q; simp at this)]; exact k.c12, fun o => by rw [World.frozen?_setCell]; exact k.fr o, by simpa using k.lt⟩
theorem E13.set2 (k : E13 w b v0 v1 v2 v3 v4 v5 v6 v7 v8 v9 v10 v11 v12) (x : Value) : E13 (w.setCell ⟨b, 2, none⟩ x) b v0 v1 x v3 v4 v5 v6 v7 v8 v9 v10 v11 v12 :=
  ⟨by rw [World.cell?_setCell_other _ _ _ _ (by intro q; have := congrArg Addr.off q; simp at this)]; exact k.c0, by rw [World.cell?_setCell_other _ _ _ _ (by intro q; have := congrArg Addr.off q; simp at this)]; exact k.c1, World.cell?_setCell_same _ _ _ k.c2, by rw [World.cell?_setCell_other _ _ _ _ (by intro q; have := congrArg Addr.off q; simp at this)]; exact k.c3, by rw [World.cell?_setCell_other _ _ _ _ (by intro q; have := congrArg Addr.off q; simp at this)]; exact k.c4, by rw [World.cell?_setCell_other _ _ _ _ (by intro q; have := congrArg Addr.off q; simp at this)]; exact k.c5, by rw [World.cell?_setCell_other _ _ _ _ (by intro q; have := congrArg Addr.off q; simp at this)]; exact k.c6, by rw [World.cell?_setCell_other _ _ _ _ (by intro q; have := congrArg Addr.off q; simp at this)]; exact k.c7, by rw [World.cell?_setCell_other _ _ _ _ (by intro q; have := congrArg Addr.off q; simp at this)]; exact k.c8, by rw [World.cell?_setCell_other _ _ _ _ (by intro q; have := congrArg Addr.off q; simp at this)]; exact k.c9, by rw [World.cell?_setCell_other _ _ _ _ (by intro q; have := congrArg Addr.off q; simp at this)]; exact k.c10, by rw [World.cell?_setCell_other _ _ _ _ (by intro q; have := congrArg Addr.off q; simp at this)]; exact k.c11, by rw [World.cell?_setCell_other _ _ _ _ (by intro q; have := congrArg Addr.off q; simp at this)]; exact k.c12, fun o => by rw [World.frozen?_setCell]; exact k.fr o, by simpa using k.lt⟩
theorem E13.set3 (k : E13 w b v0 v1 v2 v3 v4 v5 v6 v7 v8 v9 v10 v11 v12) (x : Value) : E13 (w.setCell ⟨b, 3, none⟩ x) b v0 v1 v2 x v4 v5 v6 v7 v8 v9 v10 v11 v12 :=
  ⟨by rw [World.cell?_setCell_other _ _ _ _ (by intro q; have := congrArg Addr.off q; simp at this)]; exact k.c0, by rw [World.cell?_setCell_other _ _ _ _ (by intro q; have := congrArg Addr.off q; simp at this)]; exact k.c1, by rw [World.cell?_setCell_other _ _ _ _ (by intro q; have := congrArg Addr.off q; simp at this)]; exact k.c2, World.cell?_setCell_same _ _ _ k.c3, by rw [World.cell?_setCell_other _ _ _ _ (by intro q; have := congrArg Addr.off q; simp at this)]; exact k.c4, by rw [World.cell?_setCell_other _ _ _ _ (by intro q; have := congrArg Addr.off q; simp at this)]; exact k.c5, by rw [World.cell?_setCell_other _ _ _ _ (by intro q; have := congrArg Addr.off q; simp at this)]; exact k.c6, by rw [World.cell?_setCell_other _ _ _ _ (by intro q; have := congrArg Addr.off q; simp at this)]; exact k.c7, by rw [World.cell?_setCell_other _ _ _ _ (by intro q; have := congrArg Addr.off q; simp at this)]; exact k.c8, by rw [World.cell?_setCell_other _ _ _ _ (by intro q; have := congrArg Addr.off q; simp at this)]; exact k.c9, by rw [World.cell?_setCell_other _ _ _ _ (by intro q; have := congrArg Addr.off q; simp at this)]; exact k.c10, by rw [World.cell?_setCell_other _ _ _ _ (by intro q; have := congrArg Addr.off q; simp at this)]; exact k.c11, by rw [World.cell?_setCell_other _ _ _ _ (by intro q; have := congrArg Addr.off q; simp at this)]; exact k.c12, fun o => by rw [World.frozen?_setCell]; exact k.fr o, by simpa using k.lt⟩
theorem E13.set4 (k : E13 w b v0 v1 v2 v3 v4 v5 v6 v7 v8 v9 v10 v11 v12) (x : Value) : E13 (w.setCell ⟨b, 4, none⟩ x) b v0 v1 v2 v3 x v5 v6 v7 v8 v9 v10 v11 v12 :=
  ⟨by rw [World.cell?_setCell_other _ _ _ _ (by intro q; have := congrArg Addr.off q; simp at this)]; exact k.c0, by rw [World.cell?_setCell_other _ _ _ _ (by intro q; have := congrArg Addr.off q; simp at this)]; exact k.c1, by rw [World.cell?_setCell_other _ _ _ _ (by intro q; have := congrArg Addr.off q; simp at this)]; exact k.c2, by rw [World.cell?_setCell_other _ _ _ _ (by intro q; have := congrArg Addr.off q; simp at this)]; exact k.c3, World.cell?_setCell_same _ _ _ k.c4, by rw [World.cell?_setCell_other _ _ _ _ (by intro q; have := congrArg Addr.off q; simp at this)]; exact k.c5, by rw [World.cell?_setCell_other _ _ _ _ (by intro q; have := congrArg Addr.off q; simp at this)]; exact k.c6, by rw [World.cell?_setCell_other _ _ _ _ (by intro q; have := congrArg Addr.off q; simp at this)]; exact k.c7, by rw [World.cell?_setCell_other _ _ _ _ (by intro q; have := congrArg Addr.off q; simp at this)]; exact k.c8, by rw [World.cell?_setCell_other _ _ _ _ (by intro q; have := congrArg Addr.off q; simp at this)]; exact k.c9, by rw [World.cell?_setCell_other _ _ _ _ (by intro q; have := congrArg Addr.off q; simp at this)]; exact k.c10, by rw [World.cell?_setCell_other _ _ _ _ (by intro q; have := congrArg Addr.off q; simp at this)]; exact k.c11, by rw [World.cell?_setCell_other _ _ _ _ (by intro q; have := congrArg Addr.off q; simp at this)]; exact k.c12, fun o => by rw [World.frozen?_setCell]; exact k.fr o, by simpa using k.lt⟩
theorem E13.set5 (k : E13 w b v0 v1 v2 v3 v4 v5 v6 v7 v8 v9 v10 v11 v12) (x : Value) : E13 (w.setCell ⟨b, 5, none⟩ x) b v0 v1 v2 v3 v4 x v6 v7 v8 v9 v10 v11 v12 :=
  ⟨by rw [World.cell?_setCell_other _ _ _ _ (by intro q; have := congrArg Addr.off q; simp at this)]; exact k.c0, by rw [World.cell?_setCell_other _ _ _ _ (by intro q; have := congrArg Addr.off q; simp at this)]; exact k.c1, by rw [World.cell?_setCell_other _ _ _ _ (by intro q; have := congrArg Addr.off q; simp at this)]; exact k.c2, by rw [World.cell?_setCell_other _ _ _ _ (by intro q; have := congrArg Addr.off q; simp at this)]; exact k.c3, by rw [World.cell?_setCell_other _ _ _ _ (by intro q; have := congrArg Addr.off q; simp at this)]; exact k.c4, World.cell?_setCell_same _ _ _ k.c5, by rw [World.cell?_setCell_other _ _ _ _ (by intro q; have := congrArg Addr.off q; simp at this)]; exact k.c6, by rw [World.cell?_setCell_other _ _ _ _ (by intro q; have := congrArg Addr.off q; simp at this)]; exact k.c7, by rw [World.cell?_setCell_other _ _ _ _ (by intro q; have := congrArg Addr.off q; simp at this)]; exact k.c8, by rw [World.cell?_setCell_other _ _ _ _ (by intro q; have := congrArg Addr.off q; simp at this)]; exact k.c9, by rw [World.cell?_setCell_other _ _ _ _ (by intro q; have := congrArg Addr.off q; simp at this)]; exact k.c10, by rw [World.cell?_setCell_other _ _ _ _ (by intro q; have := congrArg Addr.off q; simp at this)]; exact k.c11, by rw [World.cell?_setCell_other _ _ _ _ (by intro q; have := congrArg Addr.off q; simp at this)]; exact k.c12, fun o => by rw [World.frozen?_setCell]; exact k.fr o, by simpa using k.lt⟩
theorem E13.set6 (k : E13 w b v0 v1 v2 v3 v4 v5 v6 v7 v8 v9 v10 v11 v12) (x : Value) : E13 (w.setCell ⟨b, 6, none⟩ x) b v0 v1 v2 v3 v4 v5 x v7 v8 v9 v10 v11 v12 :=
  ⟨by rw [World.cell?_setCell_other _ _ _ _ (by intro q; have := congrArg Addr.off q; simp at this)]; exact k.c0, by rw [World.cell?_setCell_other _ _ _ _ (by intro q; have := congrArg Addr.off q; simp at this)]; exact k.c1, by rw [World.cell?_setCell_other _ _ _ _ (by intro q; have := congrArg Addr.off q; simp at this)]; exact k.c2, by rw [World.cell?_setCell_other _ _ _ _ (by intro q; have := congrArg Addr.off q; simp at this)]; exact k.c3, by rw [World.cell?_setCell_other _ _ _ _ (by intro q; have := congrArg Addr.off q; simp at this)]; exact k.c4, by rw [World.cell?_setCell_other _ _ _ _ (by intro q; have := congrArg Addr.off q; simp at this)]; exact k.c5, World.cell?_setCell_same _ _ _ k.c6, by rw [World.cell?_setCell_other _ _ _ _ (by intro q; have := congrArg Addr.off q; simp at this)]; exact k.c7, by rw [World.cell?_setCell_other _ _ _ _ (by intro q; have := congrArg Addr.off q; simp at this)]; exact k.c8, by rw [World.cell?_setCell_other _ _ _ _ (by intro q; have := congrArg Addr.off q; simp at this)]; exact k.c9, by rw [World.cell?_setCell_other _ _ _ _ (by intro q; have := congrArg Addr.off q; simp at this)]; exact k.c10, by rw [World.cell?_setCell_other _ _ _ _ (by intro q; have := congrArg Addr.off q; simp at this)]; exact k.c11, by rw [World.cell?_setCell_other _ _ _ _ (by intro q; have := congrArg Addr.off q; simp at this)]; exact k.c12, fun o => by rw [World.frozen?_setCell]; exact k.fr o, by simpa using k.lt⟩
theorem E13.set7 (k : E13 w b v0 v1 v2 v3 v4 v5 v6 v7 v8 v9 v10 v11 v12) (x : Value) : E13 (w.setCell ⟨b, 7, none⟩ x) b v0 v1 v2 v3 v4 v5 v6 x v8 v9 v10 v11 v12 :=
  ⟨by rw [World.cell?_setCell_other _ _ _ _ (by intro q; have := congrArg Addr.off q; simp at this)]; exact k.c0, by rw [World.cell?_setCell_other _ _ _ _ (by intro q; have := congrArg Addr.off q; simp at this)]; exact k.c1, by rw [World.cell?_setCell_other _ _ _ _ (by intro q; have := congrArg Addr.off q; simp at this)]; exact k.c2, by rw [World.cell?_setCell_other _ _ _ _ (by intro q; have := congrArg Addr.off q; simp at this)]; exact k.c3, by rw [World.cell?_setCell_other _ _ _ _ (by intro q; have := congrArg Addr.off q; simp at this)]; exact k.c4, by rw [World.cell?_setCell_other _ _ _ _ (by intro q; have := congrArg Addr.off q; simp at this)]; exact k.c5, by rw [World.cell?_setCell_other _ _ _ _ (by intro q; have := congrArg Addr.off q; simp at this)]; exact k.c6, World.cell?_setCell_same _ _ _ k.c7, by rw [World.cell?_setCell_other _ _ _ _ (by intro q; have := congrArg Addr.off q; simp at this)]; exact k.c8, by rw [World.cell?_setCell_other _ _ _ _ (by intro q; have := congrArg Addr.off q; simp at this)]; exact k.c9, by rw [World.cell?_setCell_other _ _ _ _ (by intro q; have := congrArg Addr.off q; simp at this)]; exact k.c10, by rw [World.cell?_setCell_other _ _ _ _ (by intro q; have := congrArg Addr.off q; simp at this)]; exact k.c11, by rw [World.cell?_setCell_other _ _ _ _ (by intro q; have := congrArg Addr.off q; simp at this)]; exact k.c12, fun o => by rw [World.frozen?_setCell]; exact k.fr o, by simpa using k.lt⟩
theorem E13.set8 (k : E13 w b v0 v1 v2 v3 v4 v5 v6 v7 v8 v9 v10 v11 v12) (x : Value) : E13 (w.setCell ⟨b, 8, none⟩ x) b v0 v1 v2 v3 v4 v5 v6 v7 x v9 v10 v11 v12 :=
  ⟨by rw [World.cell?_setCell_other _ _ _ _ (by intro q; have := congrArg Addr.off q; simp at this)]; exact k.c0, by rw [World.cell?_setCell_other _ _ _ _ (by intro q; have := congrArg Addr.off q; simp at this)]; exact k.c1, by rw [World.cell?_setCell_other _ _ _ _ (by intro q; have := congrArg Addr.off q; simp at this)]; exact k.c2, by rw [World.cell?_setCell_other _ _ _ _ (by intro q; have := congrArg Addr.off q; simp at this)]; exact k.c3, by rw [World.cell?_setCell_other _ _ _ _ (by intro q; have := congrArg Addr.off q; simp at this)]; exact k.c4, by rw [World.cell?_setCell_other _ _ _ _ (by intro q; have := congrArg Addr.off q; simp at this)]; exact k.c5, by rw [World.cell?_setCell_other _ _ _ _ (by intro q; have := congrArg Addr.off q; simp at this)]; exact k.c6, by rw [World.cell?_setCell_other _ _ _ _ (by intro q; have := congrArg Addr.off q; simp at this)]; exact k.c7, World.cell?_setCell_same _ _ _ k.c8, by rw [World.cell?_setCell_other _ _ _ _ (by intro q; have := congrArg Addr.off q; simp at this)]; exact k.c9, by rw [World.cell?_setCell_other _ _ _ _ (by intro q; have := congrArg Addr.off q; simp at this)]; exact k.c10, by rw [World.cell?_setCell_other _ _ _ _ (by intro q; have := congrArg Addr.off q; simp at this)]; exact k.c11, by rw [World.cell?_setCell_other _ _ _ _ (by intro q; have := congrArg Addr.off q; simp at this)]; exact k.c12, fun o => by rw [World.frozen?_setCell]; exact k.fr o, by simpa using k.lt⟩
theorem E13.set9 (k : E13 w b v0 v1 v2 v3 v4 v5 v6 v7 v8 v9 v10 v11 v12) (x : Value) : E13 (w.setCell ⟨b, 9, none⟩ x) b v0 v1 v2 v3 v4 v5 v6 v7 v8 x v10 v11 v12 :=
  ⟨by rw [World.cell?_setCell_other _ _ _ _ (by intro q; have := congrArg Addr.off q; simp at this)]; exact k.c0, by rw [World.cell?_setCell_other _ _ _ _ (by intro q; have := congrArg Addr.off q; simp at this)]; exact k.c1, by rw [World.cell?_setCell_other _ _ _ _ (by intro q; have := congrArg Addr.off q; simp at this)]; exact k.c2, by rw [World.cell?_setCell_other _ _ _ _ (by intro q; have := congrArg Addr.off q; simp at this)]; exact k.c3, by rw [World.cell?_setCell_other _ _ _ _ (by intro q; have := congrArg Addr.off q; simp at this)]; exact k.c4, by rw [World.cell?_setCell_other _ _ _ _ (by intro q; have := congrArg Addr.off q; simp at this)]; exact k.c5, by rw [World.cell?_setCell_other _ _ _ _ (by intro q; have := congrArg Addr.off q; simp at this)]; exact k.c6, by rw [World.cell?_setCell_other _ _ _ _ (by intro q; have := congrArg Addr.off q; simp at this)]; exact k.c7, by rw [World.cell?_setCell_other _ _ _ _ (by intro q; have := congrArg Addr.off q; simp at this)]; exact k.c8, World.cell?_setCell_same _ _ _ k.c9, by rw [World.cell?_setCell_other _ _ _ _ (by intro q; have := congrArg Addr.off q; simp at this)]; exact k.c10, by rw [World.cell?_setCell_other _ _ _ _ (by intro q; have := congrArg Addr.off q; simp at this)]; exact k.c11, by rw [World.cell?_setCell_other _ _ _ _ (by intro q; have := congrArg Addr.off q; simp at this)]; exact k.c12, fun o => by rw [World.frozen?_setCell]; exact k.fr o, by simpa using k.lt⟩
theorem E13.set10 (k : E13 w b v0 v1 v2 v3 v4 v5 v6 v7 v8 v9 v10 v11 v12) (x : Value) : E13 (w.setCell ⟨b, 10, none⟩ x) b v0 v1 v2 v3 v4 v5 v6 v7 v8 v9 x v11 v12 :=
  ⟨by rw [World.cell?_setCell_other _ _ _ _ (by intro q; have := congrArg Addr.off q; simp at this)]; exact k.c0, by rw [World.cell?_setCell_other _ _ _ _ (by intro q; have := congrArg Addr.off q; simp at this)]; exact k.c1, by rw [World.cell?_setCell_other _ _ _ _ (by intro q; have := congrArg Addr.off q; simp at this)]; exact k.c2, by rw [World.cell?_setCell_other _ _ _ _ (by intro q; have := congrArg Addr.off q; simp at this)]; exact k.c3, by rw [World.cell?_setCell_other _ _ _ _ (by intro q; have := congrArg Addr.off q; simp at this)]; exact k.c4, by rw [World.cell?_setCell_other _ _ _ _ (by intro q; have := congrArg Addr.off q; simp at this)]; exact k.c5, by rw [World.cell?_setCell_other _ _ _ _ (by intro q; have := congrArg Addr.off q; simp at this)]; exact k.c6, by rw [World.cell?_setCell_other _ _ _ _ (by intro q; have := congrArg Addr.off q; simp at this)]; exact k.c7, by rw [World.cell?_setCell_other _ _ _ _ (by intro q; have := congrArg Addr.off q; simp at this)]; exact k.c8, by rw [World.cell?_setCell_other _ _ _ _ (by intro q; have := congrArg Addr.off q; simp at this)]; exact k.c9, World.cell?_setCell_same _ _ _ k.c10, by rw [World.cell?_setCell_other _ _ _ _ (by intro q; have := congrArg Addr.off q; simp at this)]; exact k.c11, by rw [World.cell?_setCell_other _ _ _ _ (by intro q; have := congrArg Addr.off q; simp at this)]; exact k.c12, fun o => by rw [World.frozen?_setCell]; exact k.fr o, by simpa using k.lt⟩
theorem E13.set11 (k : E13 w b v0 v1 v2 v3 v4 v5 v6 v7 v8 v9 v10 v11 v12) (x : Value) : E13 (w.setCell ⟨b, 11, none⟩ x) b v0 v1 v2 v3 v4 v5 v6 v7 v8 v9 v10 x v12 :=
  ⟨by rw [World.cell?_setCell_other _ _ _ _ (by intro q; have := congrArg Addr.off q; simp at this)]; exact k.c0, by rw [World.cell?_setCell_other _ _ _ _ (by intro q; have := congrArg Addr.off q; simp at this)]; exact k.c1, by rw [World.cell?_setCell_other _ _ _ _ (by intro q; have := congrArg Addr.off q; simp at this)]; exact k.c2, by rw [World.cell?_setCell_other _ _ _ _ (by intro q; have := congrArg Addr.off q; simp at this)]; exact k.c3, by rw [World.cell?_setCell_other _ _ _ _ (by intro q; have := congrArg Addr.off q; simp at this)]; exact k.c4, by rw [World.cell?_setCell_other _ _ _ _ (by intro q; have := congrArg Addr.off q; simp at this)]; exact k.c5, by rw [World.cell?_setCell_other _ _ _ _ (by intro q; have := congrArg Addr.off q; simp at this)]; exact k.c6, by rw [World.cell?_setCell_other _ _ _ _ (by intro q; have := congrArg Addr.off q; simp at this)]; exact k.c7, by rw [World.cell?_setCell_other _ _ _ _ (by intro q; have := congrArg Addr.off q; simp at this)]; exact k.c8, by rw [World.cell?_setCell_other _ _ _ _ (by intro q; have := congrArg Addr.off q; simp at this)]; exact k.c9, by rw [World.cell?_setCell_other _ _ _ _ (by intro q; have := congrArg Addr.off q; simp at this)]; exact k.c10, World.cell?_setCell_same _ _ _ k.c11, by rw [World.cell?_setCell_other _ _ _ _ (by intro q; have := congrArg Addr.off q; simp at this)]; exact k.c12, fun o => by rw [World.frozen?_setCell]; exact k.fr o, by simpa using k.lt⟩
theorem E13.set12 (k : E13 w b v0 v1 v2 v3 v4 v5 v6 v7 v8 v9 v10 v11 v12) (x : Value) : E13 (w.setCell ⟨b, 12, none⟩ x) b v0 v1 v2 v3 v4 v5 v6 v7 v8 v9 v10 v11 x :=
  ⟨by rw [World.cell?_setCell_other _ _ _ _ (by intro q; have := congrArg Addr.off q; simp at this)]; exact k.c0, by rw [World.cell?_setCell_other _ _ _ _ (by intro q; have := congrArg Addr.off q; simp at this)]; exact k.c1, by rw [World.cell?_setCell_other _ _ _ _ (by intro q; have := congrArg Addr.off q; simp at this)]; exact k.c2, by rw [World.cell?_setCell_other _ _ _ _ (by intro q; have := congrArg Addr.off q; simp at this)]; exact k.c3, by rw [World.cell?_setCell_other _ _ _ _ (by intro q; have := congrArg Addr.off q; simp at this)]; exact k.c4, by rw [World.cell?_setCell_other _ _ _ _ (by intro q; have := congrArg Addr.off q; simp at this)]; exact k.c5, by rw [World.cell?_setCell_other _ _ _ _ (by intro q; have := congrArg Addr.off q; simp at this)]; exact k.c6, by rw [World.cell?_setCell_other _ _ _ _ (by intro q; have := congrArg Addr.off q; simp at this)]; exact k.c7, by rw [World.cell?_setCell_other _ _ _ _ (by intro q; have := congrArg Addr.off q; simp at this)]; exact k.c8, by rw [World.cell?_setCell_other _ _ _ _ (by intro q; have := congrArg Addr.off q; simp at this)]; exact k.c9, by rw [World.cell?_setCell_other _ _ _ _ (by intro q; have := congrArg Addr.off q; simp at this)]; exact k.c10, by rw [World.cell?_setCell_other _ _ _ _ (by intro q; have := congrArg Addr.off q; simp at this)]; exact k.c11, World.cell?_setCell_same _ _ _ k.c12, fun o => by rw [World.frozen?_setCell]; exact k.fr o, by simpa using k.lt⟩
end
theorem E13.all {X : World} {b : Nat} {v0 v1 v2 v3 v4 v5 v6 v7 v8 v9 v10 v11 v12 : Value} (k : E13 X b v0 v1 v2 v3 v4 v5 v6 v7 v8 v9 v10 v11 v12) (x0 x1 x2 x3 x4 x5 x6 x7 x8 x9 x10 x11 x12 : Value) : E13 (((((((((((((X.setCell ⟨b, 0, none⟩ x0).setCell ⟨b, 1, none⟩ x1).setCell ⟨b, 2, none⟩ x2).setCell ⟨b, 3, none⟩ x3).setCell ⟨b, 4, none⟩ x4).setCell ⟨b, 5, none⟩ x5).setCell ⟨b, 6, none⟩ x6).setCell ⟨b, 7, none⟩ x7).setCell ⟨b, 8, none⟩ x8).setCell ⟨b, 9, none⟩ x9).setCell ⟨b, 10, none⟩ x10).setCell ⟨b, 11, none⟩ x11).setCell ⟨b, 12, none⟩ x12) b x0 x1 x2 x3 x4 x5 x6 x7 x8 x9 x10 x11 x12 := (((((((((((((k.set0 _).set1 _).set2 _).set3 _).set4 _).set5 _).set6 _).set7 _).set8 _).set9 _).set10 _).set11 _).set12 _)
end Go.Proofs.YthiiaefdobpjhaaGreatDoor
/-
  PolicyFault, on both sides; policies that lie in memory.
-/
namespace Go.Proofs.YthiiaefdobpjhaaGreatDoor
open Go.ChangeShapes Go.WideShapes Go.ChangeAt Go.RowKit
/-- A policy in memory. -/
structure PolAt (w : World) (b : Nat) (b0 b1 b2 : Bool) (l s e g : Int) : Prop where
  c0 : w.cell? ⟨b, 0, none⟩ = some (.bool b0)
  c1 : w.cell? ⟨b, 1, none⟩ = some (.bool b1)
  c2 : w.cell? ⟨b, 2, none⟩ = some (.bool b2)
  c3 : w.cell? ⟨b, 3, none⟩ = some (.int .i64 l)
  c4 : w.cell? ⟨b, 4, none⟩ = some (.int .i64 s)
  c5 : w.cell? ⟨b, 5, none⟩ = some (.int .i64 e)
  c6 : w.cell? ⟨b, 6, none⟩ = some (.int .i64 g)
  fr : ∀ o, w.frozen? ⟨b, o, none⟩ = false
  lt : b < w.heap.size
theorem PolAt.keep {w w' : World} {b : Nat} {b0 b1 b2 : Bool} {l s e g : Int} (k : PolAt w b b0 b1 b2 l s e g) (hb : Below w.heap.size w w') : PolAt w' b b0 b1 b2 l s e g :=
  ⟨by rw [hb.cell (p := ⟨b, 0, none⟩) k.lt]; exact k.c0, by rw [hb.cell (p := ⟨b, 1, none⟩) k.lt]; exact k.c1, by rw [hb.cell (p := ⟨b, 2, none⟩) k.lt]; exact k.c2, by rw [hb.cell (p := ⟨b, 3, none⟩) k.lt]; exact k.c3, by rw [hb.cell (p := ⟨b, 4, none⟩) k.lt]; exact k.c4, by rw [hb.cell (p := ⟨b, 5, none⟩) k.lt]; exact k.c5, by rw [hb.cell (p := ⟨b, 6, none⟩) k.lt]; exact k.c6,
    fun o => by rw [hb.frozen (p := ⟨b, o, none⟩) k.lt]; exact k.fr o, Nat.lt_of_lt_of_le k.lt hb.size⟩
theorem PolAt.new (w : World) (b0 b1 b2 : Bool) (l s e g : Int) (t : TypeId) : PolAt (w.alloc (.cells #[.bool b0, .bool b1, .bool b2, .int .i64 l, .int .i64 s, .int .i64 e, .int .i64 g] t)) w.heap.size b0 b1 b2 l s e g :=
  ⟨by simp, by simp, by simp, by simp, by simp, by simp, by simp, fun o => by simp, by simp⟩
def timeB (x : Int) : Bool := decide (0 ≤ x) && decide (x ≤ 1000000000000000)
theorem timeB_yes {x : Int} (h0 : 0 ≤ x) (h1 : x ≤ 1000000000000000) : timeB x = true := by simp [timeB, h0, h1]
theorem timeB_of {x : Int} (h : timeB x = true) : 0 ≤ x ∧ x ≤ 1000000000000000 := by simpa [timeB] using h
theorem l1Time_all (x : Int) (w : World) : Calls Tryz.prog 12 #[.int .i64 x] w fun r w' => r = .returned (.bool (timeB x)) ∧ w' = w := by
  by_cases c1 : 0 ≤ x
  · by_cases c2 : x ≤ 1000000000000000
    · rw [timeB_yes c1 c2]
      have d2 : decide (x ≤ 1000000000000000) = true := by simp; omega
      go_enter Tryz.func12, Tryz.ntmps12
      go_wp2
      go_ret
      exact ⟨rfl, rfl⟩
    · have e : timeB x = false := by simp [timeB]; omega
      rw [e]
      have d2 : decide (x ≤ 1000000000000000) = false := by simp; omega
      go_enter Tryz.func12, Tryz.ntmps12
      go_wp2
      go_ret
      exact ⟨rfl, rfl⟩
  · have e : timeB x = false := by simp [timeB]; omega
    rw [e]
    go_enter Tryz.func12, Tryz.ntmps12
    go_wp2
    go_ret
    exact ⟨rfl, rfl⟩
theorem isTime_all (x : Int) (w : World) : Calls Tryz.prog 21 #[.int .i64 x] w fun r w' => r = .returned (.bool (timeB x)) ∧ w' = w := by
  by_cases c1 : 0 ≤ x
  · by_cases c2 : x ≤ 1000000000000000
    · rw [timeB_yes c1 c2]
      have d2 : decide (x ≤ 1000000000000000) = true := by simp; omega
      go_enter Tryz.func21, Tryz.ntmps21
      go_wp2
      go_ret
      exact ⟨rfl, rfl⟩
    · have e : timeB x = false := by simp [timeB]; omega
      rw [e]
      have d2 : decide (x ≤ 1000000000000000) = false := by simp; omega
      go_enter Tryz.func21, Tryz.ntmps21
      go_wp2
      go_ret
      exact ⟨rfl, rfl⟩
  · have e : timeB x = false := by simp [timeB]; omega
    rw [e]
    go_enter Tryz.func21, Tryz.ntmps21
    go_wp2
    go_ret
    exact ⟨rfl, rfl⟩
def polB (l s e g : Int) : Bool := (timeB l || decide (l = -1)) && timeB s && timeB e && timeB g
def polC (l s e g : Int) : Int := if polB l s e g = true then 0 else 3
theorem polC_ok {l s e g : Int} (h : polB l s e g = true) : polC l s e g = 0 := by rw [polC, if_pos h]
theorem polC_bad {l s e g : Int} (h : polB l s e g = false) : polC l s e g = 3 := by rw [polC, if_neg (by rw [h]; decide)]
end Go.Proofs.YthiiaefdobpjhaaGreatDoor
/-
  StoreLife, on both sides.
-/
namespace Go.Proofs.YthiiaefdobpjhaaGreatDoor
open Go.ChangeShapes Go.WideShapes Go.ChangeAt Go.RowKit
/-- Two cells that may be written. -/
structure IR (w : World) (b : Nat) (v0 v1 : Value) : Prop where
  c0 : w.cell? ⟨b, 0, none⟩ = some v0
  c1 : w.cell? ⟨b, 1, none⟩ = some v1
  fr : ∀ o, w.frozen? ⟨b, o, none⟩ = false
  lt : b < w.heap.size
theorem IR.keep {w w' : World} {b : Nat} {v0 v1 : Value} (k : IR w b v0 v1) (hb : Below w.heap.size w w') : IR w' b v0 v1 :=
  ⟨by rw [hb.cell (p := ⟨b, 0, none⟩) k.lt]; exact k.c0, by rw [hb.cell (p := ⟨b, 1, none⟩) k.lt]; exact k.c1, fun o => by rw [hb.frozen (p := ⟨b, o, none⟩) k.lt]; exact k.fr o, Nat.lt_of_lt_of_le k.lt hb.size⟩
theorem IR.new (w : World) (v0 v1 : Value) (t : TypeId) : IR (w.alloc (.cells #[v0, v1] t)) w.heap.size v0 v1 :=
  ⟨by rw [World.cell?_alloc_mark]; rfl, by rw [World.cell?_alloc_mark]; rfl, fun o => by have e := heap_alloc_new w (.cells #[v0, v1] t); unfold World.frozen?; rw [e]; simp, by simp⟩
def statB (st : Int) : Bool := decide (st = 200) || decide (st = 404) || decide (st = 410)
/-- Whether an answer may be kept. -/
def keepB (b0 : Bool) (l st : Int) : Bool := !b0 && statB st && !(decide (st = 200) && decide (l = -1))
def lifeX (l ng : Int) : Int := if l = -1 then ng else l
def rangeB (st ng : Int) : Bool := decide (200 ≤ st) && decide (st ≤ 599) && timeB ng
def lifeC (b0 : Bool) (l s e g st ng : Int) : Int := if polB l s e g = true then (if rangeB st ng = true then (if keepB b0 l st = true then 0 else 4) else 3) else 3
def lifeV (b0 : Bool) (l s e g st ng : Int) : Int := if lifeC b0 l s e g st ng = 0 then lifeX l ng else 0
theorem life_pol {b0 : Bool} {l s e g st ng : Int} (h : polB l s e g = false) : lifeC b0 l s e g st ng = 3 ∧ lifeV b0 l s e g st ng = 0 := by
  have c : lifeC b0 l s e g st ng = 3 := by rw [lifeC, if_neg (by rw [h]; decide)]
  exact ⟨c, by rw [lifeV, c, if_neg (by decide)]⟩
theorem life_range {b0 : Bool} {l s e g st ng : Int} (h : polB l s e g = true) (h2 : rangeB st ng = false) : lifeC b0 l s e g st ng = 3 ∧ lifeV b0 l s e g st ng = 0 := by
  have c : lifeC b0 l s e g st ng = 3 := by rw [lifeC, if_pos h, if_neg (by rw [h2]; decide)]
  exact ⟨c, by rw [lifeV, c, if_neg (by decide)]⟩
theorem life_none {b0 : Bool} {l s e g st ng : Int} (h : polB l s e g = true) (h2 : rangeB st ng = true) (h3 : keepB b0 l st = false) : lifeC b0 l s e g st ng = 4 ∧ lifeV b0 l s e g st ng = 0 := by
  have c : lifeC b0 l s e g st ng = 4 := by rw [lifeC, if_pos h, if_pos h2, if_neg (by rw [h3]; decide)]
  exact ⟨c, by rw [lifeV, c, if_neg (by decide)]⟩
theorem life_ok {b0 : Bool} {l s e g st ng : Int} (h : polB l s e g = true) (h2 : rangeB st ng = true) (h3 : keepB b0 l st = true) : lifeC b0 l s e g st ng = 0 ∧ lifeV b0 l s e g st ng = lifeX l ng := by
  have c : lifeC b0 l s e g st ng = 0 := by rw [lifeC, if_pos h, if_pos h2, if_pos h3]
  exact ⟨c, by rw [lifeV, if_pos c]⟩
theorem lifeX_told {l ng : Int} (h : ¬ l = -1) : lifeX l ng = l := by rw [lifeX, if_neg h]
theorem lifeX_not {ng : Int} : lifeX (-1) ng = ng := by rw [lifeX, if_pos rfl]
theorem l1In_all (x lo hi : Int) (w : World) : Calls Tryz.prog 13 #[.int .i64 x, .int .i64 lo, .int .i64 hi] w fun r w' => r = .returned (.bool (decide (lo ≤ x) && decide (x ≤ hi))) ∧ w' = w := by
  by_cases c1 : lo ≤ x
  · by_cases c2 : x ≤ hi
    · have e : (decide (lo ≤ x) && decide (x ≤ hi)) = true := by simp [c1, c2]
      rw [e]
      have d2 : decide (x ≤ hi) = true := by simp [c2]
      go_enter Tryz.func13, Tryz.ntmps13
      go_wp2
      go_ret
      exact ⟨rfl, rfl⟩
    · have e : (decide (lo ≤ x) && decide (x ≤ hi)) = false := by simp [c2]
      rw [e]
      have d2 : decide (x ≤ hi) = false := by simp [c2]
      go_enter Tryz.func13, Tryz.ntmps13
      go_wp2
      go_ret
      exact ⟨rfl, rfl⟩
  · have e : (decide (lo ≤ x) && decide (x ≤ hi)) = false := by simp [c1]
    rw [e]
    go_enter Tryz.func13, Tryz.ntmps13
    go_wp2
    go_ret
    exact ⟨rfl, rfl⟩
def lifeT (b0 : Bool) (l st ng : Int) : Value := .tuple #[.int .i64 (if keepB b0 l st = true then lifeX l ng else 0), .bool (keepB b0 l st)]
end Go.Proofs.YthiiaefdobpjhaaGreatDoor
/-
  What AddTime's model and AddTime itself answer, for any two numbers: one contract a function and a case.
-/
namespace Go.Proofs.YthiiaefdobpjhaaGreatDoor
open Go.ChangeShapes Go.WideShapes Go.ChangeAt Go.RowKit
end Go.Proofs.YthiiaefdobpjhaaGreatDoor
/-
  What is kept with an answer: faults, ages and phases, on both sides.
-/
namespace Go.Proofs.YthiiaefdobpjhaaGreatDoor
open Go.ChangeShapes Go.WideShapes Go.ChangeAt Go.RowKit
/-- What is kept with an answer, in memory. -/
structure MetaAt (w : World) (b : Nat) (t g l s e : Int) (b1 b2 : Bool) : Prop where
  c0 : w.cell? ⟨b, 0, none⟩ = some (.int .i64 t)
  c1 : w.cell? ⟨b, 1, none⟩ = some (.int .i64 g)
  c2 : w.cell? ⟨b, 2, none⟩ = some (.int .i64 l)
  c3 : w.cell? ⟨b, 3, none⟩ = some (.int .i64 s)
  c4 : w.cell? ⟨b, 4, none⟩ = some (.int .i64 e)
  c5 : w.cell? ⟨b, 5, none⟩ = some (.bool b1)
  c6 : w.cell? ⟨b, 6, none⟩ = some (.bool b2)
  fr : ∀ o, w.frozen? ⟨b, o, none⟩ = false
  lt : b < w.heap.size
theorem MetaAt.keep {w w' : World} {b : Nat} {t g l s e : Int} {b1 b2 : Bool} (k : MetaAt w b t g l s e b1 b2) (hb : Below w.heap.size w w') : MetaAt w' b t g l s e b1 b2 :=
  ⟨by rw [hb.cell (p := ⟨b, 0, none⟩) k.lt]; exact k.c0, by rw [hb.cell (p := ⟨b, 1, none⟩) k.lt]; exact k.c1, by rw [hb.cell (p := ⟨b, 2, none⟩) k.lt]; exact k.c2, by rw [hb.cell (p := ⟨b, 3, none⟩) k.lt]; exact k.c3, by rw [hb.cell (p := ⟨b, 4, none⟩) k.lt]; exact k.c4, by rw [hb.cell (p := ⟨b, 5, none⟩) k.lt]; exact k.c5, by rw [hb.cell (p := ⟨b, 6, none⟩) k.lt]; exact k.c6,
    fun o => by rw [hb.frozen (p := ⟨b, o, none⟩) k.lt]; exact k.fr o, Nat.lt_of_lt_of_le k.lt hb.size⟩
theorem MetaAt.new (w : World) (t g l s e : Int) (b1 b2 : Bool) (x : TypeId) : MetaAt (w.alloc (.cells #[.int .i64 t, .int .i64 g, .int .i64 l, .int .i64 s, .int .i64 e, .bool b1, .bool b2] x)) w.heap.size t g l s e b1 b2 :=
  ⟨by simp, by simp, by simp, by simp, by simp, by simp, by simp, fun o => by simp, by simp⟩
def addT (a b : Int) : Int := if 1000000000000000 < a + b then 1000000000000000 else a + b
theorem addT_time {a b : Int} (ha : 0 ≤ a) (hb : 0 ≤ b) : 0 ≤ addT a b ∧ addT a b ≤ 1000000000000000 := by unfold addT; split <;> omega
def metaB (t g l s e : Int) : Bool := timeB t && timeB g && timeB l && timeB s && timeB e
def metaC (t g l s e : Int) : Int := if metaB t g l s e = true then 0 else 3
theorem metaC_ok {t g l s e : Int} (h : metaB t g l s e = true) : metaC t g l s e = 0 := by rw [metaC, if_pos h]
theorem metaC_bad {t g l s e : Int} (h : metaB t g l s e = false) : metaC t g l s e = 3 := by rw [metaC, if_neg (by rw [h]; decide)]
theorem metaB_of {t g l s e : Int} (h : metaB t g l s e = true) : (0 ≤ t ∧ t ≤ 1000000000000000) ∧ (0 ≤ g ∧ g ≤ 1000000000000000) ∧ (0 ≤ l ∧ l ≤ 1000000000000000) ∧ (0 ≤ s ∧ s ≤ 1000000000000000) ∧ (0 ≤ e ∧ e ≤ 1000000000000000) := by
  simp only [metaB, Bool.and_eq_true] at h
  exact ⟨timeB_of h.1.1.1.1, timeB_of h.1.1.1.2, timeB_of h.1.1.2, timeB_of h.1.2, timeB_of h.2⟩
def askB (t g l s e n : Int) : Bool := metaB t g l s e && timeB n && decide (t ≤ n)
def askM (t g l s e n : Int) : Int := if askB t g l s e n = true then 0 else 3
theorem askM_ok {t g l s e n : Int} (h : askB t g l s e n = true) : askM t g l s e n = 0 := by rw [askM, if_pos h]
theorem askM_bad {t g l s e n : Int} (h : askB t g l s e n = false) : askM t g l s e n = 3 := by rw [askM, if_neg (by rw [h]; decide)]
theorem askB_of {t g l s e n : Int} (h : askB t g l s e n = true) : metaB t g l s e = true ∧ (0 ≤ n ∧ n ≤ 1000000000000000) ∧ t ≤ n := by
  simp only [askB, Bool.and_eq_true, decide_eq_true_eq] at h
  exact ⟨h.1.1, timeB_of h.1.2, h.2⟩
def ageM (t g n : Int) : Int := addT g (n - t)
def ageA (t g l s e n : Int) : Int := if askB t g l s e n = true then ageM t g n else 0
theorem ageA_ok {t g l s e n : Int} (h : askB t g l s e n = true) : ageA t g l s e n = ageM t g n := by rw [ageA, if_pos h]
theorem ageA_bad {t g l s e n : Int} (h : askB t g l s e n = false) : ageA t g l s e n = 0 := by rw [ageA, if_neg (by rw [h]; decide)]
def lifeM (l : Int) (b1 b2 : Bool) : Int := if (b1 || b2) = true then 0 else l
/-- The phase of an answer of this age, with this life. -/
def phaseV (a li s e : Int) (b2 : Bool) : Int := if a < li then 1 else if (!b2 && decide (a < addT li s)) = true then 2 else if a < addT li e then 3 else 0
def phaseM (t g l s e : Int) (b1 b2 : Bool) (n : Int) : Int := phaseV (ageM t g n) (lifeM l b1 b2) s e b2
def phaseA (t g l s e : Int) (b1 b2 : Bool) (n : Int) : Int := if askB t g l s e n = true then phaseM t g l s e b1 b2 n else 0
theorem phaseA_ok {t g l s e n : Int} {b1 b2 : Bool} (h : askB t g l s e n = true) : phaseA t g l s e b1 b2 n = phaseM t g l s e b1 b2 n := by rw [phaseA, if_pos h]
theorem phaseA_bad {t g l s e n : Int} {b1 b2 : Bool} (h : askB t g l s e n = false) : phaseA t g l s e b1 b2 n = 0 := by rw [phaseA, if_neg (by rw [h]; decide)]
theorem phase1 {a li s e : Int} {b2 : Bool} (h : a < li) : phaseV a li s e b2 = 1 := by rw [phaseV, if_pos h]
theorem phase2 {a li s e : Int} {b2 : Bool} (h : ¬ a < li) (h2 : (!b2 && decide (a < addT li s)) = true) : phaseV a li s e b2 = 2 := by rw [phaseV, if_neg h, if_pos h2]
theorem phase3 {a li s e : Int} {b2 : Bool} (h : ¬ a < li) (h2 : ¬ (!b2 && decide (a < addT li s)) = true) (h3 : a < addT li e) : phaseV a li s e b2 = 3 := by rw [phaseV, if_neg h, if_neg h2, if_pos h3]
theorem phase0 {a li s e : Int} {b2 : Bool} (h : ¬ a < li) (h2 : ¬ (!b2 && decide (a < addT li s)) = true) (h3 : ¬ a < addT li e) : phaseV a li s e b2 = 0 := by rw [phaseV, if_neg h, if_neg h2, if_neg h3]
theorem lifeM_time {l : Int} {b1 b2 : Bool} (h : 0 ≤ l ∧ l ≤ 1000000000000000) : 0 ≤ lifeM l b1 b2 ∧ lifeM l b1 b2 ≤ 1000000000000000 := by unfold lifeM; split <;> omega
theorem ageM_time {t g n : Int} (h : 0 ≤ g) (h2 : t ≤ n) : 0 ≤ ageM t g n ∧ ageM t g n ≤ 1000000000000000 := addT_time h (by omega)
end Go.Proofs.YthiiaefdobpjhaaGreatDoor
/-
  What is kept with an answer, handed over by the laws.
-/
namespace Go.Proofs.YthiiaefdobpjhaaGreatDoor
open Go.ChangeShapes Go.WideShapes Go.ChangeAt Go.RowKit Go.Sort
end Go.Proofs.YthiiaefdobpjhaaGreatDoor
/-
  What is kept with an answer, compared with itself.
-/
namespace Go.Proofs.YthiiaefdobpjhaaGreatDoor
open Go.ChangeShapes Go.WideShapes Go.ChangeAt Go.RowKit Go.Sort
end Go.Proofs.YthiiaefdobpjhaaGreatDoor
/-
  Entries, handed over by the laws: how much room they take, copies, comparisons.
-/
namespace Go.Proofs.YthiiaefdobpjhaaGreatDoor
open Go.ChangeShapes Go.WideShapes Go.ChangeAt Go.RowKit Go.Sort
/-- How much room is left behind an entry; -1: none. -/
def szE (left : Int) (key : ByteArray) (hs : List Hdr) (bs : List UInt8) (ts : List ByteArray) : Int :=
  if left - (key.size : Int) < 0 then -1 else
  if szHL (left - (key.size : Int)) hs < 0 then -1 else
  if szHL (left - (key.size : Int)) hs - (bs.length : Int) < 0 then -1 else
  if szTL (szHL (left - (key.size : Int)) hs - (bs.length : Int)) ts < 0 then -1 else szTL (szHL (left - (key.size : Int)) hs - (bs.length : Int)) ts
set_option maxHeartbeats 1000000 in
theorem eqHeaderS_none (w : World) (a b : Option Addr) (c d : Nat) :
    Calls Tryz.prog 37 #[.slice a 0 c, .slice b 0 d] w fun e w' => e = .returned (.bool true) ∧ Below w.heap.size w w' := by
  go_enter Tryz.func37, Tryz.ntmps37
  go_wp2_with fail
  go_loop [5] (fun i => i = .int .i64 0) (fun _ => 0)
  case atStart => exact rfl
  case round =>
    cases hrel
    go_wp2_with fail
    go_ret
    exact ⟨rfl, Below.refl _ _⟩
theorem eqHeaderS_in (w : World) (a1 a2 : Option Addr) (c1 c2 : Nat) (l : List Hdr) (hl : l.length ≤ 1048576) (h1 : HdsIn w a1 l) (h2 : HdsIn w a2 l) :
    Calls Tryz.prog 37 #[.slice a1 l.length c1, .slice a2 l.length c2] w fun e w' => e = .returned (.bool true) ∧ Below w.heap.size w w' := by
  rcases h1 with rfl | ⟨b, o, rfl, h1⟩
  · exact eqHeaderS_none w _ _ _ _
  · rcases h2 with rfl | ⟨b2, o2, rfl, h2⟩
    · exact eqHeaderS_none w _ _ _ _
    · exact eqHeaderS_same w b o b2 o2 c1 c2 l hl h1 h2
theorem szTL_le {l : List ByteArray} {left : Int} (h : ¬ szTL left l < 0) : szTL left l ≤ left := by
  unfold szTL at h ⊢
  by_cases c : left - (l.length : Int) < 0
  · rw [if_pos c] at h; omega
  · rw [if_neg c] at h ⊢
    rcases szTs_le l (left - (l.length : Int)) with x | x <;> omega
theorem szE_room {left : Int} {key : ByteArray} {hs : List Hdr} {bs : List UInt8} {ts : List ByteArray} (hl : left ≤ 1048576) (h : ¬ szE left key hs bs ts < 0) : key.size ≤ 1048576 ∧ hs.length ≤ 1048576 ∧ bs.length ≤ 1048576 ∧ ts.length ≤ 1048576 ∧ szE left key hs bs ts ≤ left := by
  unfold szE at h ⊢
  split at h
  · exact absurd (by decide) h
  split at h
  · exact absurd (by decide) h
  split at h
  · exact absurd (by decide) h
  split at h
  · exact absurd (by decide) h
  rename_i c1 c2 c3 c4
  rw [if_neg c1, if_neg c2, if_neg c3, if_neg c4]
  have r1 := szHL_room (l := hs) (left := left - (key.size : Int)) (by omega) c2
  have r2 := szHL_le c2
  have r3 := szTL_room (l := ts) (left := szHL (left - (key.size : Int)) hs - (bs.length : Int)) (by omega) c4
  have r4 := szTL_le c4
  exact ⟨by omega, by omega, by omega, r3.1, by omega⟩
end Go.Proofs.YthiiaefdobpjhaaGreatDoor
/-
  The laws' copy of head lines: what it holds may be written.
-/
namespace Go.Proofs.YthiiaefdobpjhaaGreatDoor
open Go.ChangeShapes Go.WideShapes Go.ChangeAt Go.RowKit Go.Sort
set_option maxHeartbeats 2000000 in
theorem toHeaderS_free (w : World) (a : Option Addr) (cap : Nat) (l : List Hdr) (hl : l.length ≤ 1048576) (hi : l = [] ∨ ∃ b off, a = some ⟨b, off, none⟩ ∧ HeadsAt w b off l) :
    Calls Tryz.prog 31 #[.slice a l.length cap] w fun e w' => e = .returned (.slice (some ⟨w.heap.size, 0, none⟩) l.length l.length) ∧ HeadsAt w' w.heap.size 0 l ∧ w.heap.size < w'.heap.size ∧ (∀ o, w'.frozen? ⟨w.heap.size, o, none⟩ = false) ∧ Below w.heap.size w w' := by
  have HI : Hid (l = [] ∨ ∃ b off, a = some ⟨b, off, none⟩ ∧ HeadsAt w b off l) := hi
  obtain ⟨i0, hi0, hz0, hz1, hz2⟩ := info_parts infoHeader
  clear hi
  generalize hn : l.length = n at *
  have HN : Hid (l.length = n) := hn
  clear hn
  go_enter Tryz.func31, Tryz.ntmps31
  go_wp2_with (at_make; refine wpList_make_full w rfl _ _ 32 rfl w.heap.size 73 i0 _ 2 Tryz.underlying32 hi0 hz0 hz1 _ _ _ _ n rfl rfl rfl rfl (by rw [hz2]; omega) (by unfold maxLen; omega) (Nat.le_refl _) ?_; intro w1 hown hgrow)
  have HR1 : Hid (HRoom w1 w.heap.size (n * 2) ∧ (w.heap.size < w1.heap.size ∧ ∀ o, w1.frozen? ⟨w.heap.size, o, none⟩ = false) ∧ Below w.heap.size w w1) := by
    refine ⟨fun j hj => ⟨?_, hown.frozenAt j⟩, ⟨?lt, fun o => hown.frozenAt o⟩, (Below.refl _ _).grown hgrow (Nat.le_refl _) (fun q hq => by cases hq)⟩
    case lt =>
      obtain ⟨_, h | ⟨g, c, cur, e, _, hh, _⟩⟩ := hown
      · cases h.1
      · simp only [Value.slice.injEq, Option.some.injEq] at e
        have e1 := congrArg Addr.block e.1
        simp only at e1
        rw [e1]
        exact (Array.getElem?_eq_some_iff.1 hh).1
    have h1 := hown.cellAt j hj
    have h2 : j < (madeCells (Value.agg #[.string ⟨#[]⟩, .string ⟨#[]⟩]).cells (n * 2)).toList.length := by have := hown.1; omega
    exact ⟨_, h1.trans (List.getElem?_eq_getElem h2)⟩
  clear hown hgrow
  go_loopw [4] (fun i wr => ∃ k : Nat, k ≤ n ∧ i = .int .i64 k ∧ HeadsAt wr w.heap.size 0 (l.take k) ∧ HRoom wr w.heap.size (n * 2) ∧ (w.heap.size < wr.heap.size ∧ ∀ o, wr.frozen? ⟨w.heap.size, o, none⟩ = false) ∧ Below w.heap.size w wr) (fun i _ => n - (intOf i).toNat)
  case atStart => exact ⟨0, Nat.zero_le _, rfl, fun i r hr => by simp at hr, HR1.out.1, HR1.out.2.1, HR1.out.2.2⟩
  case round =>
    obtain ⟨k, hk, rfl, hat, hroom, hfr, hb⟩ := hrel
    have HFR : Hid (w.heap.size < wr.heap.size ∧ ∀ o, wr.frozen? ⟨w.heap.size, o, none⟩ = false) := hfr
    clear hfr
    clear HR1
    by_cases hlt : k < n
    · obtain ⟨r, hr⟩ : ∃ r, l[k]? = some r := ⟨l[k]'(by have := HN.out; omega), List.getElem?_eq_getElem _⟩
      rcases HI.out with h | ⟨b, off, rfl, hsrc⟩
      · subst h; simp at hr
      have hblt : b < w.heap.size := block_lt_of_cell (hsrc k r hr).1
      have hkeep := (hsrc.keep (w' := w) (Below.refl _ _)) k r hr
      have p1 : wr.cell? ⟨b, off + k * 2, none⟩ = some (.string r.name) := by rw [hb.cell (p := ⟨b, off + k * 2, none⟩) hblt]; exact hkeep.1
      have p3 : wr.cell? ⟨b, off + k * 2 + 1, none⟩ = some (.string r.value) := by rw [hb.cell (p := ⟨b, off + k * 2 + 1, none⟩) hblt]; exact hkeep.2
      have HA : Hid (HeadsAt wr w.heap.size 0 (l.take k)) := hat
      have HM : Hid (HRoom wr w.heap.size (n * 2)) := hroom
      have HR : Hid (l[k]? = some r) := hr
      have g : (k : Int) < n := by omega
      clear hat hroom hr hsrc hkeep HI
      go_wp2_with fail
      refine (toHeader_any r _).mono ?_
      rintro e w2 ⟨rfl, hb2⟩
      have HA2 : Hid (HeadsAt w2 w.heap.size 0 (l.take k)) := HA.out.keep hb2
      have HM2 : Hid (HRoom w2 w.heap.size (n * 2)) := HM.out.keep hb2
      have hbb : Below w.heap.size w w2 := hb.trans (hb2.mono hb.size)
      have HFR2 : Hid (w.heap.size < w2.heap.size ∧ ∀ o, w2.frozen? ⟨w.heap.size, o, none⟩ = false) := ⟨Nat.lt_of_lt_of_le HFR.out.1 hb2.size, fun o => by rw [hb2.frozen (p := ⟨w.heap.size, o, none⟩) HFR.out.1]; exact HFR.out.2 o⟩
      obtain ⟨⟨u0, g0⟩, f0⟩ := HM2.out (k * 2) (by omega)
      obtain ⟨⟨u1, g1⟩, f1⟩ := HM2.out (k * 2 + 1) (by omega)
      have HP : Hid (HeadsAt (put2 w2 w.heap.size k r) w.heap.size 0 (l.take (k + 1)) ∧ HRoom (put2 w2 w.heap.size k r) w.heap.size (n * 2)) := ⟨HA2.out.put HR.out HM2.out hlt, HM2.out.put k r⟩
      clear HA HM HA2 HM2 hb2 hb p1 p3
      obtain ⟨rn, rv⟩ := r
      go_wp2_with fail
      go_roundw
      case rel => exact ⟨k + 1, by omega, by go_num, HP.out.1, HP.out.2, ⟨by simpa using HFR2.out.1, fun o => by rw [World.frozen?_setCell, World.frozen?_setCell]; exact HFR2.out.2 o⟩, (hbb.setCell (Nat.le_refl _) _).setCell (Nat.le_refl _) _⟩
      case measure => simp [intOf]; omega
    · have HF : Hid (HeadsAt wr w.heap.size 0 l) := by
        have e : l.take k = l := List.take_of_length_le (by have := HN.out; omega)
        rw [e] at hat
        exact hat
      clear hat hroom
      go_wp2_with fail
      go_ret
      exact ⟨rfl, HF.out, HFR.out.1, HFR.out.2, hb⟩
end Go.Proofs.YthiiaefdobpjhaaGreatDoor
/-
  Requests that came in: measured, taken over, compared.
-/
namespace Go.Proofs.YthiiaefdobpjhaaGreatDoor
open Go.ChangeShapes Go.WideShapes Go.ChangeAt Go.RowKit
/-- Lines of the law's own, that may be written. -/
structure QMine (W : World) (B : Nat) (l : List Hdr) : Prop where
  at0 : HeadsAt W B 0 l
  free : ∀ o, W.frozen? ⟨B, o, none⟩ = false
  lt : B < W.heap.size
theorem QMine.keep {W W' : World} {B : Nat} {l : List Hdr} (h : QMine W B l) (hb : Below W.heap.size W W') : QMine W' B l :=
  ⟨h.at0.keep hb, fun o => by rw [hb.frozen (p := ⟨B, o, none⟩) h.lt]; exact h.free o, Nat.lt_of_lt_of_le h.lt hb.size⟩
def szRq (left : Int) (m h p : ByteArray) (l : List Hdr) : Int :=
  if left - (m.size : Int) < 0 then -1 else if left - (m.size : Int) - (h.size : Int) < 0 then -1 else if left - (m.size : Int) - (h.size : Int) - (p.size : Int) < 0 then -1 else
    if szHL (left - (m.size : Int) - (h.size : Int) - (p.size : Int)) l < 0 then -1 else szHL (left - (m.size : Int) - (h.size : Int) - (p.size : Int)) l
theorem szRq_room {left : Int} {m h p : ByteArray} {l : List Hdr} (hl : left ≤ 1048576) (hz : ¬ szRq left m h p l < 0) : m.size ≤ 1048576 ∧ h.size ≤ 1048576 ∧ p.size ≤ 1048576 ∧ l.length ≤ 1048576 ∧ szRq left m h p l ≤ left := by
  unfold szRq at hz ⊢
  by_cases c1 : left - (m.size : Int) < 0
  · rw [if_pos c1] at hz; omega
  rw [if_neg c1] at hz ⊢
  by_cases c2 : left - (m.size : Int) - (h.size : Int) < 0
  · rw [if_pos c2] at hz; omega
  rw [if_neg c2] at hz ⊢
  by_cases c3 : left - (m.size : Int) - (h.size : Int) - (p.size : Int) < 0
  · rw [if_pos c3] at hz; omega
  rw [if_neg c3] at hz ⊢
  by_cases c4 : szHL (left - (m.size : Int) - (h.size : Int) - (p.size : Int)) l < 0
  · rw [if_pos c4] at hz; omega
  rw [if_neg c4] at hz ⊢
  have a := (szHL_room (by omega) c4).1
  have b := szHL_le c4
  exact ⟨by omega, by omega, by omega, by omega, by omega⟩
set_option maxHeartbeats 2000000 in
theorem szRequest_any (w : World) (m h p : ByteArray) (a : Option Addr) (cap : Nat) (l : List Hdr) (z1 : m.size ≤ maxLen) (z2 : h.size ≤ maxLen) (z3 : p.size ≤ maxLen) (hl : l.length ≤ maxLen) (hz : SmallHdrs l) (hi : HdsIn w a l) (left : Int) (h0 : 0 ≤ left) (h1 : left ≤ 1048576) :
    Calls Tryz.prog 9 #[.agg #[.string m, .string h, .string p, .slice a l.length cap], .int .i64 left] w fun e w' => e = .returned (.int .i64 (szRq left m h p l)) ∧ Below w.heap.size w w' := by
  have HE : Hid (szRq left m h p l = _) := show szRq left m h p l = _ from rfl
  unfold szRq at HE
  obtain ⟨W, hW⟩ : ∃ W, W = w.alloc (.cells #[.string m, .string h, .string p, .slice a l.length cap] 24) := ⟨_, rfl⟩
  have HW : Hid (W = w.alloc (.cells #[.string m, .string h, .string p, .slice a l.length cap] 24)) := hW
  have bW : Below w.heap.size w W := by rw [hW]; exact (Below.refl _ _).alloc (Nat.le_refl _) _
  have HB : Hid (Below w.heap.size w W) := bW
  unfold maxLen at z1 z2 z3
  by_cases c1 : left - (m.size : Int) < 0
  · have HV : Hid (szRq left m h p l = -1) := by show _ = _; unfold szRq; rw [if_pos c1]
    rw [HW.out] at HB
    clear HE hW bW HW hi hz
    generalize l.length = n at *
    go_enter Tryz.func9, Tryz.ntmps9
    go_wp2_with fail
    go_ret
    exact ⟨ret_int HV.out.symm, HB.out⟩
  by_cases c2 : left - (m.size : Int) - (h.size : Int) < 0
  · have HV : Hid (szRq left m h p l = -1) := by show _ = _; unfold szRq; rw [if_neg c1, if_pos c2]
    rw [HW.out] at HB
    clear HE hW bW HW hi hz
    generalize l.length = n at *
    go_enter Tryz.func9, Tryz.ntmps9
    go_wp2_with fail
    go_ret
    exact ⟨ret_int HV.out.symm, HB.out⟩
  by_cases c3 : left - (m.size : Int) - (h.size : Int) - (p.size : Int) < 0
  · have HV : Hid (szRq left m h p l = -1) := by show _ = _; unfold szRq; rw [if_neg c1, if_neg c2, if_pos c3]
    rw [HW.out] at HB
    clear HE hW bW HW hi hz
    generalize l.length = n at *
    go_enter Tryz.func9, Tryz.ntmps9
    go_wp2_with fail
    go_ret
    exact ⟨ret_int HV.out.symm, HB.out⟩
  have C := szHeaderS_any W a cap l hl (hi.keep bW) hz (left - (m.size : Int) - (h.size : Int) - (p.size : Int)) (by omega) (by omega)
  have HV1 : Hid (szHL (left - (m.size : Int) - (h.size : Int) - (p.size : Int)) l < 0 → szRq left m h p l = -1) := fun c => by unfold szRq; rw [if_neg c1, if_neg c2, if_neg c3, if_pos c]
  have HV2 : Hid (¬ szHL (left - (m.size : Int) - (h.size : Int) - (p.size : Int)) l < 0 → szRq left m h p l = szHL (left - (m.size : Int) - (h.size : Int) - (p.size : Int)) l) := fun c => by unfold szRq; rw [if_neg c1, if_neg c2, if_neg c3, if_neg c]
  clear HE hW bW hi hz
  generalize szHL (left - (m.size : Int) - (h.size : Int) - (p.size : Int)) l = z at *
  generalize l.length = n at *
  go_enter Tryz.func9, Tryz.ntmps9
  go_wp2_with fail
  rw [← HW.out]
  refine C.mono ?_
  rintro e w1 ⟨rfl, hb1⟩
  have HB1 : Hid (Below w.heap.size w w1) := HB.out.trans (hb1.mono HB.out.size)
  clear hb1 HB C HW
  by_cases c4 : z < 0
  · have HV := HV1.out c4
    have HV' : Hid (szRq left m h p l = -1) := HV
    clear HV HV1 HV2
    go_wp2_with fail
    go_ret
    exact ⟨ret_int HV'.out.symm, HB1.out⟩
  · have HV' : Hid (szRq left m h p l = z) := HV2.out (by omega)
    clear HV1 HV2
    go_wp2_with fail
    go_ret
    exact ⟨ret_int HV'.out.symm, HB1.out⟩
/-- Four cells of a block, laid out. -/
structure Four (W : World) (B : Nat) (v0 v1 v2 v3 : Value) : Prop where
  c0 : W.cell? ⟨B, 0, none⟩ = some v0
  c1 : W.cell? ⟨B, 1, none⟩ = some v1
  c2 : W.cell? ⟨B, 2, none⟩ = some v2
  c3 : W.cell? ⟨B, 3, none⟩ = some v3
  fr : ∀ o, W.frozen? ⟨B, o, none⟩ = false
  lt : B < W.heap.size
theorem Four.keep {W W' : World} {B : Nat} {v0 v1 v2 v3 : Value} (h : Four W B v0 v1 v2 v3) (hb : Below W.heap.size W W') : Four W' B v0 v1 v2 v3 :=
  ⟨by rw [hb.cell (p := ⟨B, 0, none⟩) h.lt]; exact h.c0, by rw [hb.cell (p := ⟨B, 1, none⟩) h.lt]; exact h.c1, by rw [hb.cell (p := ⟨B, 2, none⟩) h.lt]; exact h.c2, by rw [hb.cell (p := ⟨B, 3, none⟩) h.lt]; exact h.c3,
    fun o => by rw [hb.frozen (p := ⟨B, o, none⟩) h.lt]; exact h.fr o, Nat.lt_of_lt_of_le h.lt hb.size⟩
theorem Four.new (W : World) (v0 v1 v2 v3 : Value) (t : TypeId) : Four (W.alloc (.cells #[v0, v1, v2, v3] t)) W.heap.size v0 v1 v2 v3 :=
  ⟨by rw [World.cell?_alloc_mark]; rfl, by rw [World.cell?_alloc_mark]; rfl, by rw [World.cell?_alloc_mark]; rfl, by rw [World.cell?_alloc_mark]; rfl, fun o => by have e := heap_alloc_new W (.cells #[v0, v1, v2, v3] t); unfold World.frozen?; rw [e]; simp, by simp⟩
set_option maxHeartbeats 2000000 in
theorem toRequest_any (w : World) (m h p : ByteArray) (a : Option Addr) (cap : Nat) (l : List Hdr) (hl : l.length ≤ 1048576) (hi : HdsIn w a l) :
    Calls Tryz.prog 16 #[.agg #[.string m, .string h, .string p, .slice a l.length cap]] w fun e w' => e = .returned (.agg #[.string m, .string h, .string p, .slice (some ⟨w.heap.size + 3, 0, none⟩) l.length l.length]) ∧ QMine w' (w.heap.size + 3) l ∧ Below w.heap.size w w' := by
  obtain ⟨W, hW⟩ : ∃ W, W = ((w.alloc (.cells #[.string m, .string h, .string p, .slice a l.length cap] 24)).alloc (.cells #[.string ⟨#[]⟩, .string ⟨#[]⟩, .string ⟨#[]⟩, .slice none 0 0] 34)).alloc (.cells #[.string m, .string h, .string p, .slice none 0 0] 34) := ⟨_, rfl⟩
  have HW : Hid (W = ((w.alloc (.cells #[.string m, .string h, .string p, .slice a l.length cap] 24)).alloc (.cells #[.string ⟨#[]⟩, .string ⟨#[]⟩, .string ⟨#[]⟩, .slice none 0 0] 34)).alloc (.cells #[.string m, .string h, .string p, .slice none 0 0] 34)) := hW
  have bW : Below w.heap.size w W := by rw [hW]; exact (((Below.refl _ _).alloc (Nat.le_refl _) _).alloc (by simp) _).alloc (by simp; omega) _
  have hsz : W.heap.size = w.heap.size + 3 := by rw [hW]; simp
  have f2 : Four W (w.heap.size + 2) (.string m) (.string h) (.string p) (.slice none 0 0) := by
    rw [hW]
    have := Four.new ((w.alloc (.cells #[.string m, .string h, .string p, .slice a l.length cap] 24)).alloc (.cells #[.string ⟨#[]⟩, .string ⟨#[]⟩, .string ⟨#[]⟩, .slice none 0 0] 34)) (.string m) (.string h) (.string p) (.slice none 0 0) 34
    simpa using this
  have f1 : Four W (w.heap.size + 1) (.string ⟨#[]⟩) (.string ⟨#[]⟩) (.string ⟨#[]⟩) (.slice none 0 0) := by
    rw [hW]
    have := (Four.new (w.alloc (.cells #[.string m, .string h, .string p, .slice a l.length cap] 24)) (.string ⟨#[]⟩) (.string ⟨#[]⟩) (.string ⟨#[]⟩) (.slice none 0 0) 34).keep ((Below.refl _ _).alloc (Nat.le_refl _) (.cells #[.string m, .string h, .string p, .slice none 0 0] 34))
    simpa using this
  have C := toHeaderS_free W a cap l hl (hi.keep bW)
  rw [hsz] at C
  have HB : Hid (Below w.heap.size w W) := bW
  have HZ : Hid (W.heap.size = w.heap.size + 3) := hsz
  have F1 : Hid (Four W (w.heap.size + 1) (.string ⟨#[]⟩) (.string ⟨#[]⟩) (.string ⟨#[]⟩) (.slice none 0 0)) := f1
  have F2 : Hid (Four W (w.heap.size + 2) (.string m) (.string h) (.string p) (.slice none 0 0)) := f2
  clear hW bW hi hsz f1 f2
  generalize l.length = n at *
  go_enter Tryz.func16, Tryz.ntmps16
  go_wp2_with fail
  rw [← HW.out]
  refine C.mono ?_
  rintro e w1 ⟨rfl, hat, hlt, hfr, hb1⟩
  have hb1' : Below W.heap.size W w1 := by rw [HZ.out]; exact hb1
  obtain ⟨a0, a1, a2, a3, af, al⟩ := F2.out.keep hb1'
  obtain ⟨b0, b1, b2, b3, bf, bl⟩ := F1.out.keep hb1'
  have a3f := af 3
  have b0f := bf 0
  have b1f := bf 1
  have b2f := bf 2
  have b3f := bf 3
  have HM : Hid (QMine w1 (w.heap.size + 3) l) := ⟨hat, hfr, hlt⟩
  have HB1 : Hid (Below w.heap.size w w1) := HB.out.trans (hb1'.mono HB.out.size)
  have HQ : Hid (∀ W', (∀ o, W'.cell? ⟨w.heap.size + 3, o, none⟩ = w1.cell? ⟨w.heap.size + 3, o, none⟩) → (∀ o, W'.frozen? ⟨w.heap.size + 3, o, none⟩ = w1.frozen? ⟨w.heap.size + 3, o, none⟩) → W'.heap.size = w1.heap.size → QMine W' (w.heap.size + 3) l) := fun W' h1 h2 h3 =>
    ⟨fun i r hr => by rw [h1, h1]; exact hat i r hr, fun o => by rw [h2]; exact hfr o, by rw [h3]; exact hlt⟩
  clear hat hlt hfr hb1 hb1' C HW HB HZ F1 F2 af bf al bl HM
  go_wp2_with fail
  refine bodyPost_ret (v := .agg #[.string m, .string h, .string p, .slice (some ⟨w.heap.size + 3, 0, none⟩) n n]) ?_ rfl ⟨rfl, HQ.out _ (fun o => ?_) (fun o => ?_) ?_, ?_⟩
  · simp [results, Tryz.results16, go_sem, b0, b1, b2, b3]
  · have ne : ∀ k j : Nat, k < w.heap.size + 3 → (⟨k, j, none⟩ : Addr) ≠ ⟨w.heap.size + 3, o, none⟩ := fun k j hk e => by have := congrArg Addr.block e; simp only at this; omega
    rw [World.cell?_setCell_other _ _ _ _ (ne _ _ (by omega)), World.cell?_setCell_other _ _ _ _ (ne _ _ (by omega)), World.cell?_setCell_other _ _ _ _ (ne _ _ (by omega)), World.cell?_setCell_other _ _ _ _ (ne _ _ (by omega)), World.cell?_setCell_other _ _ _ _ (ne _ _ (by omega))]
  · simp only [World.frozen?_setCell]
  · simp
  · exact ((((HB1.out.setCell (by simp; omega) _).setCell (by simp) _).setCell (by simp) _).setCell (by simp) _).setCell (by simp) _
set_option maxHeartbeats 2000000 in
theorem eqRequest_same (W : World) (m h p : ByteArray) (b1 b2 : Nat) (l : List Hdr) (hl : l.length ≤ 1048576) (h1 : HeadsAt W b1 0 l) (h2 : HeadsAt W b2 0 l) :
    Calls Tryz.prog 23 #[.agg #[.string m, .string h, .string p, .slice (some ⟨b1, 0, none⟩) l.length l.length], .agg #[.string m, .string h, .string p, .slice (some ⟨b2, 0, none⟩) l.length l.length]] W fun e w' => e = .returned (.bool true) ∧ Below W.heap.size W w' := by
  have bW : Below W.heap.size W ((W.alloc (.cells #[.string m, .string h, .string p, .slice (some ⟨b1, 0, none⟩) l.length l.length] 34)).alloc (.cells #[.string m, .string h, .string p, .slice (some ⟨b2, 0, none⟩) l.length l.length] 34)) := ((Below.refl _ _).alloc (Nat.le_refl _) _).alloc (by simp) _
  have C := eqHeaderS_same _ b1 0 b2 0 l.length l.length l hl (h1.keep bW) (h2.keep bW)
  have HB : Hid (Below W.heap.size W _) := bW
  clear bW h1 h2
  generalize l.length = n at *
  go_enter Tryz.func23, Tryz.ntmps23
  go_wp2_with fail
  refine C.mono ?_
  rintro e w1 ⟨rfl, hb1⟩
  have HB1 : Hid (Below W.heap.size W w1) := HB.out.trans (hb1.mono HB.out.size)
  clear hb1 HB C
  go_wp2_with fail
  go_ret
  exact ⟨rfl, HB1.out⟩
end Go.Proofs.YthiiaefdobpjhaaGreatDoor
/-
  Responses that came in: measured, taken over, compared.
-/
namespace Go.Proofs.YthiiaefdobpjhaaGreatDoor
open Go.ChangeShapes Go.WideShapes Go.ChangeAt Go.RowKit
structure Three (W : World) (B : Nat) (v0 v1 v2 : Value) : Prop where
  c0 : W.cell? ⟨B, 0, none⟩ = some v0
  c1 : W.cell? ⟨B, 1, none⟩ = some v1
  c2 : W.cell? ⟨B, 2, none⟩ = some v2
  fr : ∀ o, W.frozen? ⟨B, o, none⟩ = false
  lt : B < W.heap.size
theorem Three.keep {W W' : World} {B : Nat} {v0 v1 v2 : Value} (h : Three W B v0 v1 v2) (hb : Below W.heap.size W W') : Three W' B v0 v1 v2 :=
  ⟨by rw [hb.cell (p := ⟨B, 0, none⟩) h.lt]; exact h.c0, by rw [hb.cell (p := ⟨B, 1, none⟩) h.lt]; exact h.c1, by rw [hb.cell (p := ⟨B, 2, none⟩) h.lt]; exact h.c2,
    fun o => by rw [hb.frozen (p := ⟨B, o, none⟩) h.lt]; exact h.fr o, Nat.lt_of_lt_of_le h.lt hb.size⟩
theorem Three.new (W : World) (v0 v1 v2 : Value) (t : TypeId) : Three (W.alloc (.cells #[v0, v1, v2] t)) W.heap.size v0 v1 v2 :=
  ⟨by rw [World.cell?_alloc_mark]; rfl, by rw [World.cell?_alloc_mark]; rfl, by rw [World.cell?_alloc_mark]; rfl, fun o => by have e := heap_alloc_new W (.cells #[v0, v1, v2] t); unfold World.frozen?; rw [e]; simp, by simp⟩
def szP (left : Int) (l : List Hdr) (n : Nat) : Int := if szHL left l < 0 then -1 else if szHL left l - (n : Int) < 0 then -1 else szHL left l - (n : Int)
theorem szP_room {left : Int} {l : List Hdr} {n : Nat} (hl : left ≤ 1048576) (hz : ¬ szP left l n < 0) : l.length ≤ 1048576 ∧ n ≤ 1048576 ∧ szP left l n ≤ left := by
  unfold szP at hz ⊢
  by_cases c1 : szHL left l < 0
  · rw [if_pos c1] at hz; omega
  rw [if_neg c1] at hz ⊢
  by_cases c2 : szHL left l - (n : Int) < 0
  · rw [if_pos c2] at hz; omega
  rw [if_neg c2] at hz ⊢
  have a := (szHL_room hl c1).1
  have b := szHL_le c1
  exact ⟨by omega, by omega, by omega⟩
set_option maxHeartbeats 2000000 in
theorem szResponse_any (w : World) (s : Int) (a : Option Addr) (cap : Nat) (l : List Hdr) (b : Option Addr) (bn bc : Nat) (hl : l.length ≤ maxLen) (hz : SmallHdrs l) (hi : HdsIn w a l) (hbn : bn ≤ maxLen) (left : Int) (h0 : 0 ≤ left) (h1 : left ≤ 1048576) :
    Calls Tryz.prog 10 #[.agg #[.int .i64 s, .slice a l.length cap, .slice b bn bc], .int .i64 left] w fun e w' => e = .returned (.int .i64 (szP left l bn)) ∧ Below w.heap.size w w' := by
  obtain ⟨W, hW⟩ : ∃ W, W = w.alloc (.cells #[.int .i64 s, .slice a l.length cap, .slice b bn bc] 27) := ⟨_, rfl⟩
  have HW : Hid (W = w.alloc (.cells #[.int .i64 s, .slice a l.length cap, .slice b bn bc] 27)) := hW
  have bW : Below w.heap.size w W := by rw [hW]; exact (Below.refl _ _).alloc (Nat.le_refl _) _
  have fW : Three W w.heap.size (.int .i64 s) (.slice a l.length cap) (.slice b bn bc) := by rw [hW]; exact Three.new _ _ _ _ _
  have HB : Hid (Below w.heap.size w W) := bW
  have C := szHeaderS_any W a cap l hl (hi.keep bW) hz left h0 h1
  have HV1 : Hid (szHL left l < 0 → szP left l bn = -1) := fun c => by unfold szP; rw [if_pos c]
  have HV2 : Hid (¬ szHL left l < 0 → szHL left l - (bn : Int) < 0 → szP left l bn = -1) := fun c c2 => by unfold szP; rw [if_neg c, if_pos c2]
  have HV3 : Hid (¬ szHL left l < 0 → ¬ szHL left l - (bn : Int) < 0 → szP left l bn = szHL left l - (bn : Int)) := fun c c2 => by unfold szP; rw [if_neg c, if_neg c2]
  have HLE : Hid (¬ szHL left l < 0 → szHL left l ≤ left) := szHL_le
  have F : Hid (Three W w.heap.size (.int .i64 s) (.slice a l.length cap) (.slice b bn bc)) := fW
  clear hW bW hi hz fW
  generalize szHL left l = z at *
  generalize szP left l bn = q at *
  generalize l.length = n at *
  go_enter Tryz.func10, Tryz.ntmps10
  go_wp2_with fail
  rw [← HW.out]
  refine C.mono ?_
  rintro e w1 ⟨rfl, hb1⟩
  have HB1 : Hid (Below w.heap.size w w1) := HB.out.trans (hb1.mono HB.out.size)
  have c2 := (F.out.keep hb1).c2
  clear hb1 HB C HW F
  by_cases c4 : z < 0
  · have HV : Hid (q = -1) := HV1.out c4
    clear HV1 HV2 HV3 HLE
    go_wp2_with fail
    go_ret
    exact ⟨ret_int HV.out.symm, HB1.out⟩
  have hz1 := HLE.out (by omega)
  have C2 := szByteS_any b bn bc z w1 (by omega) (by omega) hbn
  by_cases c5 : z - (bn : Int) < 0
  · have HV : Hid (q = -1) := HV2.out (by omega) (by omega)
    rw [if_pos c5] at C2
    clear HV1 HV2 HV3 HLE
    go_wp2_with fail
    refine C2.mono ?_
    rintro e w2 ⟨rfl, hw⟩
    obtain rfl := hw.symm
    clear C2 hw
    go_wp2_with fail
    go_ret
    exact ⟨ret_int HV.out.symm, HB1.out⟩
  · have HV : Hid (q = z - (bn : Int)) := HV3.out (by omega) (by omega)
    rw [if_neg c5] at C2
    clear HV1 HV2 HV3 HLE
    generalize z - (bn : Int) = y at *
    go_wp2_with fail
    refine C2.mono ?_
    rintro e w2 ⟨rfl, hw⟩
    obtain rfl := hw.symm
    clear C2 hw
    go_wp2_with fail
    go_ret
    exact ⟨ret_int HV.out.symm, HB1.out⟩
/-- A response of the law's own. -/
def RespRes (k : Nat) (s : Int) (l : List Hdr) (bl : List UInt8) (e : Ending) (w' : World) : Prop :=
  ∃ B, e = .returned (.agg #[.int .i64 s, .slice (some ⟨k + 3, 0, none⟩) l.length l.length, .slice (some ⟨B, 0, none⟩) bl.length bl.length]) ∧ QMine w' (k + 3) l ∧ BMine w' B bl ∧ k + 3 < B
set_option maxHeartbeats 4000000 in
theorem toResponse_any (w : World) (s : Int) (a : Option Addr) (cap : Nat) (l : List Hdr) (b : Option Addr) (bc : Nat) (bl : List UInt8) (hl : l.length ≤ 1048576) (hbl : bl.length ≤ 1048576) (hi : HdsIn w a l) (hib : BIn w b bl) :
    Calls Tryz.prog 17 #[.agg #[.int .i64 s, .slice a l.length cap, .slice b bl.length bc]] w fun e w' => RespRes w.heap.size s l bl e w' ∧ Below w.heap.size w w' := by
  obtain ⟨W, hW⟩ : ∃ W, W = ((w.alloc (.cells #[.int .i64 s, .slice a l.length cap, .slice b bl.length bc] 27)).alloc (.cells #[.int .i64 0, .slice none 0 0, .slice none 0 0] 36)).alloc (.cells #[.int .i64 s, .slice none 0 0, .slice none 0 0] 36) := ⟨_, rfl⟩
  have HW : Hid (W = ((w.alloc (.cells #[.int .i64 s, .slice a l.length cap, .slice b bl.length bc] 27)).alloc (.cells #[.int .i64 0, .slice none 0 0, .slice none 0 0] 36)).alloc (.cells #[.int .i64 s, .slice none 0 0, .slice none 0 0] 36)) := hW
  have bW : Below w.heap.size w W := by rw [hW]; exact (((Below.refl _ _).alloc (Nat.le_refl _) _).alloc (by simp) _).alloc (by simp; omega) _
  have hsz : W.heap.size = w.heap.size + 3 := by rw [hW]; simp
  have f2 : Three W (w.heap.size + 2) (.int .i64 s) (.slice none 0 0) (.slice none 0 0) := by
    rw [hW]
    have := Three.new ((w.alloc (.cells #[.int .i64 s, .slice a l.length cap, .slice b bl.length bc] 27)).alloc (.cells #[.int .i64 0, .slice none 0 0, .slice none 0 0] 36)) (.int .i64 s) (.slice none 0 0) (.slice none 0 0) 36
    simpa using this
  have f1 : Three W (w.heap.size + 1) (.int .i64 0) (.slice none 0 0) (.slice none 0 0) := by
    rw [hW]
    have := (Three.new (w.alloc (.cells #[.int .i64 s, .slice a l.length cap, .slice b bl.length bc] 27)) (.int .i64 0) (.slice none 0 0) (.slice none 0 0) 36).keep ((Below.refl _ _).alloc (Nat.le_refl _) (.cells #[.int .i64 s, .slice none 0 0, .slice none 0 0] 36))
    simpa using this
  have f0 : Three W w.heap.size (.int .i64 s) (.slice a l.length cap) (.slice b bl.length bc) := by
    rw [hW]
    exact ((Three.new w (.int .i64 s) (.slice a l.length cap) (.slice b bl.length bc) 27).keep ((Below.refl _ _).alloc (Nat.le_refl _) _)).keep ((Below.refl _ _).alloc (Nat.le_refl _) _)
  have C := toHeaderS_free W a cap l hl (hi.keep bW)
  rw [hsz] at C
  have HB : Hid (Below w.heap.size w W) := bW
  have HZ : Hid (W.heap.size = w.heap.size + 3) := hsz
  have HC : Hid (∀ X, Below w.heap.size w X → Calls Tryz.prog 32 #[.slice b bl.length bc] X fun e w' => e = .returned (.slice (some ⟨X.heap.size, 0, none⟩) bl.length bl.length) ∧ BMine w' X.heap.size bl ∧ Below X.heap.size X w') := fun X hb => toByteS_any X b bc bl hbl (hib.keep hb)
  have F : Hid (Three W w.heap.size (.int .i64 s) (.slice a l.length cap) (.slice b bl.length bc) ∧ Three W (w.heap.size + 1) (.int .i64 0) (.slice none 0 0) (.slice none 0 0) ∧ Three W (w.heap.size + 2) (.int .i64 s) (.slice none 0 0) (.slice none 0 0)) := ⟨f0, f1, f2⟩
  clear hW bW hi hsz f1 f2 f0 hib
  have HRes : Hid (∀ e w', RespRes w.heap.size s l bl e w' ↔ RespRes w.heap.size s l bl e w') := fun _ _ => Iff.rfl
  generalize hn : l.length = n at *
  generalize hbn : bl.length = bn at *
  have HN : Hid (l.length = n ∧ bl.length = bn) := ⟨hn, hbn⟩
  clear hn hbn HRes
  go_enter Tryz.func17, Tryz.ntmps17
  go_wp2_with fail
  rw [← HW.out]
  refine C.mono ?_
  rintro e w1 ⟨rfl, hat, hlt, hfr, hb1⟩
  have hb1' : Below W.heap.size W w1 := by rw [HZ.out]; exact hb1
  obtain ⟨g0, g1, g2⟩ := F.out
  have HM1 : Hid (QMine w1 (w.heap.size + 3) l ∧ Below w.heap.size w w1 ∧ Three w1 w.heap.size (.int .i64 s) (.slice a n cap) (.slice b bn bc) ∧ Three w1 (w.heap.size + 1) (.int .i64 0) (.slice none 0 0) (.slice none 0 0)) := ⟨⟨hat, hfr, hlt⟩, HB.out.trans (hb1'.mono HB.out.size), g0.keep hb1', g1.keep hb1'⟩
  obtain ⟨a0, a1, a2, af, al⟩ := g2.keep hb1'
  have a1f := af 1
  obtain ⟨V, hV⟩ : ∃ V, V = w1.setCell ⟨w.heap.size + 2, 1, none⟩ (.slice (some ⟨w.heap.size + 3, 0, none⟩) n n) := ⟨_, rfl⟩
  have HV : Hid (V = w1.setCell ⟨w.heap.size + 2, 1, none⟩ (.slice (some ⟨w.heap.size + 3, 0, none⟩) n n)) := hV
  have ne : ∀ k j o : Nat, k ≠ w.heap.size + 2 → (⟨w.heap.size + 2, j, none⟩ : Addr) ≠ ⟨k, o, none⟩ := fun k j o hk e => by have := congrArg Addr.block e; simp only at this; omega
  have keepc : ∀ k o, k ≠ w.heap.size + 2 → V.cell? ⟨k, o, none⟩ = w1.cell? ⟨k, o, none⟩ := fun k o hk => by rw [hV, World.cell?_setCell_other _ _ _ _ (ne _ _ _ hk)]
  have keepf : ∀ k o, V.frozen? ⟨k, o, none⟩ = w1.frozen? ⟨k, o, none⟩ := fun k o => by rw [hV, World.frozen?_setCell]
  have hVs : V.heap.size = w1.heap.size := by rw [hV]; simp
  have t2 : Three V (w.heap.size + 2) (.int .i64 s) (.slice (some ⟨w.heap.size + 3, 0, none⟩) n n) (.slice none 0 0) := by
    refine ⟨?_, ?_, ?_, fun o => by rw [keepf]; exact af o, by rw [hVs]; exact al⟩
    · rw [hV, World.cell?_setCell_other _ _ _ _ (hoff_ne (by omega))]; exact a0
    · rw [hV]; exact World.cell?_setCell_same _ _ _ a1
    · rw [hV, World.cell?_setCell_other _ _ _ _ (hoff_ne (by omega))]; exact a2
  obtain ⟨q1, q2, q3, q4⟩ := HM1.out
  have K : Hid (QMine V (w.heap.size + 3) l ∧ Below w.heap.size w V ∧ Three V w.heap.size (.int .i64 s) (.slice a n cap) (.slice b bn bc) ∧ Three V (w.heap.size + 1) (.int .i64 0) (.slice none 0 0) (.slice none 0 0) ∧ Three V (w.heap.size + 2) (.int .i64 s) (.slice (some ⟨w.heap.size + 3, 0, none⟩) n n) (.slice none 0 0)) := by
    refine ⟨⟨fun i r hr => by rw [keepc _ _ (by omega), keepc _ _ (by omega)]; exact q1.at0 i r hr, fun o => by rw [keepf]; exact q1.free o, by rw [hVs]; exact q1.lt⟩, by rw [hV]; exact q2.setCell (by simp) _, ?_, ?_, t2⟩
    · exact ⟨by rw [keepc _ _ (by omega)]; exact q3.c0, by rw [keepc _ _ (by omega)]; exact q3.c1, by rw [keepc _ _ (by omega)]; exact q3.c2, fun o => by rw [keepf]; exact q3.fr o, by rw [hVs]; exact q3.lt⟩
    · exact ⟨by rw [keepc _ _ (by omega)]; exact q4.c0, by rw [keepc _ _ (by omega)]; exact q4.c1, by rw [keepc _ _ (by omega)]; exact q4.c2, fun o => by rw [keepf]; exact q4.fr o, by rw [hVs]; exact q4.lt⟩
  have C2 := HC.out V K.out.2.1
  have gc2 := q3.c2
  clear hat hlt hfr hb1 hb1' C HW HB HZ F af al g0 g1 g2 HM1 q1 q2 q3 q4 t2 keepc keepf hVs ne hV HC
  go_wp2_with fail
  have hVx := HV.out
  rw [← hVx]
  refine C2.mono ?_
  rintro e w2 ⟨rfl, hbm, hb2⟩
  obtain ⟨q1, q2, q3, q4, q5⟩ := K.out
  have k1 := q1.keep hb2
  have k4 := q4.keep hb2
  have k5 := q5.keep hb2
  have HM : Hid (QMine w2 (w.heap.size + 3) l ∧ BMine w2 V.heap.size bl ∧ Below w.heap.size w w2 ∧ w.heap.size + 3 < V.heap.size) := ⟨k1, hbm, q2.trans (hb2.mono q2.size), q1.lt⟩
  obtain ⟨a0, a1, a2, af, _⟩ := k5
  obtain ⟨b0, b1, b2, bf, _⟩ := k4
  have a2f := af 2
  have b0f := bf 0
  have b1f := bf 1
  have b2f := bf 2
  clear C2 hb2 hbm K q1 q2 q3 q4 q5 k1 af bf HV hVx
  generalize V.heap.size = B at *
  go_wp2_with fail
  obtain ⟨m1, m2, m3, m4⟩ := HM.out
  obtain ⟨rfl, rfl⟩ := HN.out
  refine bodyPost_ret (v := .agg #[.int .i64 s, .slice (some ⟨w.heap.size + 3, 0, none⟩) l.length l.length, .slice (some ⟨B, 0, none⟩) bl.length bl.length]) ?_ rfl ⟨⟨B, rfl, ?_, ?_, m4⟩, ?_⟩
  · simp [results, Tryz.results17, go_sem, b0, b1, b2]
  · have ne : ∀ k j o : Nat, k < w.heap.size + 3 → (⟨k, j, none⟩ : Addr) ≠ ⟨w.heap.size + 3, o, none⟩ := fun k j o hk e => by have := congrArg Addr.block e; simp only at this; omega
    refine ⟨fun i r hr => ?_, fun o => by simp only [World.frozen?_setCell]; exact m1.free o, by simpa using m1.lt⟩
    rw [World.cell?_setCell_other _ _ _ _ (ne _ _ _ (by omega)), World.cell?_setCell_other _ _ _ _ (ne _ _ _ (by omega)), World.cell?_setCell_other _ _ _ _ (ne _ _ _ (by omega)), World.cell?_setCell_other _ _ _ _ (ne _ _ _ (by omega)), World.cell?_setCell_other _ _ _ _ (ne _ _ _ (by omega)), World.cell?_setCell_other _ _ _ _ (ne _ _ _ (by omega)), World.cell?_setCell_other _ _ _ _ (ne _ _ _ (by omega)), World.cell?_setCell_other _ _ _ _ (ne _ _ _ (by omega))]
    exact m1.at0 i r hr
  · have ne : ∀ k j o : Nat, k < w.heap.size + 3 → (⟨k, j, none⟩ : Addr) ≠ ⟨B, o, none⟩ := fun k j o hk e => by have := congrArg Addr.block e; simp only at this; omega
    refine ⟨fun i r hr => ?_, fun o ho => by simp only [World.frozen?_setCell]; exact m2.free o ho, by simpa using m2.lt⟩
    rw [World.cell?_setCell_other _ _ _ _ (ne _ _ _ (by omega)), World.cell?_setCell_other _ _ _ _ (ne _ _ _ (by omega)), World.cell?_setCell_other _ _ _ _ (ne _ _ _ (by omega)), World.cell?_setCell_other _ _ _ _ (ne _ _ _ (by omega))]
    exact m2.at0 i r hr
  · exact (((m3.setCell (by simp; omega) _).setCell (by simp) _).setCell (by simp) _).setCell (by simp) _
set_option maxHeartbeats 2000000 in
theorem eqResponse_same (W : World) (s : Int) (b1 b2 : Nat) (l : List Hdr) (d1 d2 : Nat) (bl : List UInt8) (hl : l.length ≤ 1048576) (hbl : bl.length ≤ 1048576) (h1 : HeadsAt W b1 0 l) (h2 : HeadsAt W b2 0 l) (k1 : BMine W d1 bl) (k2 : BMine W d2 bl) :
    Calls Tryz.prog 24 #[.agg #[.int .i64 s, .slice (some ⟨b1, 0, none⟩) l.length l.length, .slice (some ⟨d1, 0, none⟩) bl.length bl.length], .agg #[.int .i64 s, .slice (some ⟨b2, 0, none⟩) l.length l.length, .slice (some ⟨d2, 0, none⟩) bl.length bl.length]] W fun e w' => e = .returned (.bool true) ∧ Below W.heap.size W w' := by
  obtain ⟨V, hV⟩ : ∃ V, V = (W.alloc (.cells #[.int .i64 s, .slice (some ⟨b1, 0, none⟩) l.length l.length, .slice (some ⟨d1, 0, none⟩) bl.length bl.length] 36)).alloc (.cells #[.int .i64 s, .slice (some ⟨b2, 0, none⟩) l.length l.length, .slice (some ⟨d2, 0, none⟩) bl.length bl.length] 36) := ⟨_, rfl⟩
  have HV : Hid (V = (W.alloc (.cells #[.int .i64 s, .slice (some ⟨b1, 0, none⟩) l.length l.length, .slice (some ⟨d1, 0, none⟩) bl.length bl.length] 36)).alloc (.cells #[.int .i64 s, .slice (some ⟨b2, 0, none⟩) l.length l.length, .slice (some ⟨d2, 0, none⟩) bl.length bl.length] 36)) := hV
  have bW : Below W.heap.size W V := by rw [hV]; exact ((Below.refl _ _).alloc (Nat.le_refl _) _).alloc (by simp) _
  have t2 : Three V (W.heap.size + 1) (.int .i64 s) (.slice (some ⟨b2, 0, none⟩) l.length l.length) (.slice (some ⟨d2, 0, none⟩) bl.length bl.length) := by
    rw [hV]
    have := Three.new (W.alloc (.cells #[.int .i64 s, .slice (some ⟨b1, 0, none⟩) l.length l.length, .slice (some ⟨d1, 0, none⟩) bl.length bl.length] 36)) (.int .i64 s) (.slice (some ⟨b2, 0, none⟩) l.length l.length) (.slice (some ⟨d2, 0, none⟩) bl.length bl.length) 36
    simpa using this
  have t1 : Three V W.heap.size (.int .i64 s) (.slice (some ⟨b1, 0, none⟩) l.length l.length) (.slice (some ⟨d1, 0, none⟩) bl.length bl.length) := by
    rw [hV]
    exact (Three.new W (.int .i64 s) (.slice (some ⟨b1, 0, none⟩) l.length l.length) (.slice (some ⟨d1, 0, none⟩) bl.length bl.length) 36).keep ((Below.refl _ _).alloc (Nat.le_refl _) _)
  have C := eqHeaderS_same V b1 0 b2 0 l.length l.length l hl (h1.keep bW) (h2.keep bW)
  have K : Hid (Below W.heap.size W V ∧ Three V W.heap.size (.int .i64 s) (.slice (some ⟨b1, 0, none⟩) l.length l.length) (.slice (some ⟨d1, 0, none⟩) bl.length bl.length) ∧ Three V (W.heap.size + 1) (.int .i64 s) (.slice (some ⟨b2, 0, none⟩) l.length l.length) (.slice (some ⟨d2, 0, none⟩) bl.length bl.length)) := ⟨bW, t1, t2⟩
  have HC : Hid (∀ X, Below W.heap.size W X → Calls Tryz.prog 38 #[.slice (some ⟨d1, 0, none⟩) bl.length bl.length, .slice (some ⟨d2, 0, none⟩) bl.length bl.length] X fun e w' => e = .returned (.bool true) ∧ Below X.heap.size X w') := fun X hb => eqByteS_same X _ _ _ _ bl hbl (k1.keep hb).in (k2.keep hb).in
  clear hV bW h1 h2 k1 k2 t1 t2
  generalize l.length = n at *
  generalize bl.length = bn at *
  go_enter Tryz.func24, Tryz.ntmps24
  go_wp2_with fail
  rw [← HV.out]
  refine C.mono ?_
  rintro e w1 ⟨rfl, hb1⟩
  have HB1 : Hid (Below W.heap.size W w1) := K.out.1.trans (hb1.mono K.out.1.size)
  have p2 := (K.out.2.1.keep hb1).c2
  have q2 := (K.out.2.2.keep hb1).c2
  have C2 := HC.out w1 HB1.out
  clear hb1 C K HV HC
  go_wp2_with fail
  refine C2.mono ?_
  rintro e w2 ⟨rfl, hb2⟩
  have HB2 : Hid (Below W.heap.size W w2) := HB1.out.trans (hb2.mono HB1.out.size)
  clear hb2 C2 HB1 p2 q2
  go_wp2_with fail
  go_ret
  exact ⟨rfl, HB2.out⟩
end Go.Proofs.YthiiaefdobpjhaaGreatDoor
/-
  Entries, handed over by the laws: copies.
-/
namespace Go.Proofs.YthiiaefdobpjhaaGreatDoor
open Go.ChangeShapes Go.WideShapes Go.ChangeAt Go.RowKit Go.Sort
theorem QMine.off1 {W : World} {B b i : Nat} {l : List Hdr} (h : QMine W B l) (x : Value) (hne : b ≠ B) : QMine (W.setCell ⟨b, i, none⟩ x) B l := by
  have ne : ∀ o : Nat, (⟨b, i, none⟩ : Addr) ≠ ⟨B, o, none⟩ := fun o q => hne (congrArg Addr.block q)
  exact ⟨fun k r hr => by rw [World.cell?_setCell_other _ _ _ _ (ne _), World.cell?_setCell_other _ _ _ _ (ne _)]; exact h.at0 k r hr, fun o => by rw [World.frozen?_setCell]; exact h.free o, by simpa using h.lt⟩
theorem BMine.off1 {W : World} {B b i : Nat} {l : List UInt8} (h : BMine W B l) (x : Value) (hne : b ≠ B) : BMine (W.setCell ⟨b, i, none⟩ x) B l := by
  have ne : ∀ o : Nat, (⟨b, i, none⟩ : Addr) ≠ ⟨B, o, none⟩ := fun o q => hne (congrArg Addr.block q)
  exact ⟨fun k r hr => by rw [World.cell?_setCell_other _ _ _ _ (ne _)]; exact h.at0 k r hr, fun o ho => by rw [World.frozen?_setCell]; exact h.free o ho, by simpa using h.lt⟩
theorem TMine.off1 {W : World} {B b i : Nat} {l : List ByteArray} (h : TMine W B l) (x : Value) (hne : b ≠ B) : TMine (W.setCell ⟨b, i, none⟩ x) B l := by
  have ne : ∀ o : Nat, (⟨b, i, none⟩ : Addr) ≠ ⟨B, o, none⟩ := fun o q => hne (congrArg Addr.block q)
  exact ⟨fun k r hr => by rw [World.cell?_setCell_other _ _ _ _ (ne _)]; exact h.at0 k r hr, fun o ho => by rw [World.frozen?_setCell]; exact h.free o ho, by simpa using h.lt⟩
end Go.Proofs.YthiiaefdobpjhaaGreatDoor
/-
  Lists of entries, handed over by the laws: room, copies, comparisons.
-/
namespace Go.Proofs.YthiiaefdobpjhaaGreatDoor
open Go.ChangeShapes Go.WideShapes Go.ChangeAt Go.RowKit Go.Sort
theorem EntsAt.cells {w : World} {b off : Nat} {l : List (Ent × EntR)} (h : EntsAt w b off l) {i : Nat} {q : Ent × EntR} (hq : l[i]? = some q) : w.cell? ⟨b, off + i * 13, none⟩ = some (.string q.1.key) ∧ w.cell? ⟨b, off + i * 13 + 1, none⟩ = some (.int .i64 q.1.st) ∧ w.cell? ⟨b, off + i * 13 + 2, none⟩ = some (.slice q.2.ha q.1.hs.length q.2.hc) ∧ w.cell? ⟨b, off + i * 13 + 3, none⟩ = some (.slice q.2.ba q.1.bl.length q.2.bc) ∧ w.cell? ⟨b, off + i * 13 + 4, none⟩ = some (.int .i64 q.1.t) ∧ w.cell? ⟨b, off + i * 13 + 5, none⟩ = some (.int .i64 q.1.g) ∧ w.cell? ⟨b, off + i * 13 + 6, none⟩ = some (.int .i64 q.1.l) ∧ w.cell? ⟨b, off + i * 13 + 7, none⟩ = some (.int .i64 q.1.s) ∧ w.cell? ⟨b, off + i * 13 + 8, none⟩ = some (.int .i64 q.1.e) ∧ w.cell? ⟨b, off + i * 13 + 9, none⟩ = some (.bool q.1.b1) ∧ w.cell? ⟨b, off + i * 13 + 10, none⟩ = some (.bool q.1.b2) ∧ w.cell? ⟨b, off + i * 13 + 11, none⟩ = some (.slice q.2.ta q.1.ts.length q.2.tc) ∧ w.cell? ⟨b, off + i * 13 + 12, none⟩ = some (.int .i64 q.1.pins) := by
  have c := (h i q hq).1
  exact ⟨c 0 (by omega), c 1 (by omega), c 2 (by omega), c 3 (by omega), c 4 (by omega), c 5 (by omega), c 6 (by omega), c 7 (by omega), c 8 (by omega), c 9 (by omega), c 10 (by omega), c 11 (by omega), c 12 (by omega)⟩
theorem EntsAt.in {w : World} {b off : Nat} {l : List (Ent × EntR)} (h : EntsAt w b off l) {i : Nat} {q : Ent × EntR} (hq : l[i]? = some q) : EntIn w q.1 q.2 := (h i q hq).2
def szEs (c : Int) : List (Ent × EntR) → Int
  | [] => c
  | q :: l => if szE c q.1.key q.1.hs q.1.bl q.1.ts < 0 then -1 else szEs (szE c q.1.key q.1.hs q.1.bl q.1.ts) l
def szEL (left : Int) (l : List (Ent × EntR)) : Int := if left - (l.length : Int) < 0 then -1 else szEs (left - (l.length : Int)) l
end Go.Proofs.YthiiaefdobpjhaaGreatDoor
/-
  Lists of entries, copied by the laws.
-/
namespace Go.Proofs.YthiiaefdobpjhaaGreatDoor
open Go.ChangeShapes Go.WideShapes Go.ChangeAt Go.RowKit Go.Sort
def blk : Option Addr → Nat
  | some a => a.block
  | none => 0
def mkR (x : Ent) (B1 B2 B3 : Nat) : EntR := ⟨some ⟨B1, 0, none⟩, x.hs.length, some ⟨B2, 0, none⟩, x.bl.length, some ⟨B3, 0, none⟩, x.ts.length⟩
/-- An entry whose lists are its own. -/
def EntOwn (W : World) (x : Ent) (r : EntR) : Prop := ∃ B1 B2 B3, r = mkR x B1 B2 B3 ∧ QMine W B1 x.hs ∧ BMine W B2 x.bl ∧ TMine W B3 x.ts ∧ B1 < B2 ∧ B2 < B3
theorem EntOwn.keep {W W' : World} {x : Ent} {r : EntR} (h : EntOwn W x r) (hb : Below W.heap.size W W') : EntOwn W' x r := by
  obtain ⟨B1, B2, B3, e, h1, h2, h3, h4⟩ := h
  exact ⟨B1, B2, B3, e, h1.keep hb, h2.keep hb, h3.keep hb, h4⟩
theorem EntOwn.in {W : World} {x : Ent} {r : EntR} (h : EntOwn W x r) : EntIn W x r := by
  obtain ⟨B1, B2, B3, rfl, h1, h2, h3, h4⟩ := h
  exact ⟨.inr ⟨_, _, rfl, h1.at0⟩, h2.in, h3.in, Nat.le_refl _, Nat.le_refl _, Nat.le_refl _⟩
theorem EntOwn.lt {W : World} {x : Ent} {r : EntR} (h : EntOwn W x r) : blk r.ta < W.heap.size := by
  obtain ⟨B1, B2, B3, rfl, h1, h2, h3, h4⟩ := h
  exact h3.lt
theorem EntOwn.off1 {W : World} {x : Ent} {r : EntR} (h : EntOwn W x r) {b i : Nat} (v : Value) (hne : b < blk r.ha) : EntOwn (W.setCell ⟨b, i, none⟩ v) x r := by
  obtain ⟨B1, B2, B3, rfl, h1, h2, h3, h4, h5⟩ := h
  have q : b < B1 := hne
  exact ⟨B1, B2, B3, rfl, h1.off1 v (by omega), h2.off1 v (by omega), h3.off1 v (by omega), h4, h5⟩
/-- A list of entries that is its holder's own. -/
structure EntsMine (W : World) (G : Nat) (l : List (Ent × EntR)) : Prop where
  cell : ∀ (i : Nat) q, l[i]? = some q → ∀ j, j < 13 → W.cell? ⟨G, i * 13 + j, none⟩ = (entW q.1 q.2)[j]?
  free : ∀ o, W.frozen? ⟨G, o, none⟩ = false
  lt : G < W.heap.size
  own : ∀ q ∈ l, EntOwn W q.1 q.2
  up : ∀ q ∈ l, G < blk q.2.ha
  pw : l.Pairwise (fun q q' => blk q.2.ta < blk q'.2.ha)
theorem EntsMine.keep {W W' : World} {G : Nat} {l : List (Ent × EntR)} (h : EntsMine W G l) (hb : Below W.heap.size W W') : EntsMine W' G l :=
  ⟨fun i q hq j hj => by rw [hb.cell (p := ⟨G, i * 13 + j, none⟩) h.lt]; exact h.cell i q hq j hj, fun o => by rw [hb.frozen (p := ⟨G, o, none⟩) h.lt]; exact h.free o, Nat.lt_of_lt_of_le h.lt hb.size, fun q hq => (h.own q hq).keep hb, h.up, h.pw⟩
theorem EntsMine.at0 {W : World} {G : Nat} {l : List (Ent × EntR)} (h : EntsMine W G l) : EntsAt W G 0 l := fun i q hq => ⟨fun j hj => by rw [Nat.zero_add]; exact h.cell i q hq j hj, (h.own q (List.mem_of_getElem? hq)).in⟩
theorem EntsMine.in {W : World} {G : Nat} {l : List (Ent × EntR)} (h : EntsMine W G l) : EntsIn W (some ⟨G, 0, none⟩) l := .inr ⟨G, 0, rfl, h.at0⟩
def put13 (X : World) (G k : Nat) (x0 x1 x2 x3 x4 x5 x6 x7 x8 x9 x10 x11 x12 : Value) : World := (((((((((((((X.setCell ⟨G, k * 13, none⟩ x0).setCell ⟨G, k * 13 + 1, none⟩ x1).setCell ⟨G, k * 13 + 2, none⟩ x2).setCell ⟨G, k * 13 + 3, none⟩ x3).setCell ⟨G, k * 13 + 4, none⟩ x4).setCell ⟨G, k * 13 + 5, none⟩ x5).setCell ⟨G, k * 13 + 6, none⟩ x6).setCell ⟨G, k * 13 + 7, none⟩ x7).setCell ⟨G, k * 13 + 8, none⟩ x8).setCell ⟨G, k * 13 + 9, none⟩ x9).setCell ⟨G, k * 13 + 10, none⟩ x10).setCell ⟨G, k * 13 + 11, none⟩ x11).setCell ⟨G, k * 13 + 12, none⟩ x12)
theorem put13_other (X : World) (G k : Nat) (x0 x1 x2 x3 x4 x5 x6 x7 x8 x9 x10 x11 x12 : Value) (i : Nat) (hi : i < k * 13 ∨ k * 13 + 13 ≤ i) : (put13 X G k x0 x1 x2 x3 x4 x5 x6 x7 x8 x9 x10 x11 x12).cell? ⟨G, i, none⟩ = X.cell? ⟨G, i, none⟩ := by
  unfold put13
  rw [World.cell?_setCell_other _ _ _ _ (hoff_ne (by omega)), World.cell?_setCell_other _ _ _ _ (hoff_ne (by omega)), World.cell?_setCell_other _ _ _ _ (hoff_ne (by omega)), World.cell?_setCell_other _ _ _ _ (hoff_ne (by omega)), World.cell?_setCell_other _ _ _ _ (hoff_ne (by omega)), World.cell?_setCell_other _ _ _ _ (hoff_ne (by omega)), World.cell?_setCell_other _ _ _ _ (hoff_ne (by omega)), World.cell?_setCell_other _ _ _ _ (hoff_ne (by omega)), World.cell?_setCell_other _ _ _ _ (hoff_ne (by omega)), World.cell?_setCell_other _ _ _ _ (hoff_ne (by omega)), World.cell?_setCell_other _ _ _ _ (hoff_ne (by omega)), World.cell?_setCell_other _ _ _ _ (hoff_ne (by omega)), World.cell?_setCell_other _ _ _ _ (hoff_ne (by omega))]
theorem put13_room {X : World} {G n : Nat} (k : Nat) (x0 x1 x2 x3 x4 x5 x6 x7 x8 x9 x10 x11 x12 : Value) (h : HRoom X G n) : HRoom (put13 X G k x0 x1 x2 x3 x4 x5 x6 x7 x8 x9 x10 x11 x12) G n := (((((((((((((h.set _ _).set _ _).set _ _).set _ _).set _ _).set _ _).set _ _).set _ _).set _ _).set _ _).set _ _).set _ _).set _ _)
theorem put13_free (X : World) (G k : Nat) (x0 x1 x2 x3 x4 x5 x6 x7 x8 x9 x10 x11 x12 : Value) (p : Addr) : (put13 X G k x0 x1 x2 x3 x4 x5 x6 x7 x8 x9 x10 x11 x12).frozen? p = X.frozen? p := by
  unfold put13
  rw [World.frozen?_setCell, World.frozen?_setCell, World.frozen?_setCell, World.frozen?_setCell, World.frozen?_setCell, World.frozen?_setCell, World.frozen?_setCell, World.frozen?_setCell, World.frozen?_setCell, World.frozen?_setCell, World.frozen?_setCell, World.frozen?_setCell, World.frozen?_setCell]
theorem put13_size (X : World) (G k : Nat) (x0 x1 x2 x3 x4 x5 x6 x7 x8 x9 x10 x11 x12 : Value) : (put13 X G k x0 x1 x2 x3 x4 x5 x6 x7 x8 x9 x10 x11 x12).heap.size = X.heap.size := by
  unfold put13
  simp
theorem put13_below {w X : World} {n G : Nat} (k : Nat) (x0 x1 x2 x3 x4 x5 x6 x7 x8 x9 x10 x11 x12 : Value) (h : Below n w X) (hn : n ≤ G) : Below n w (put13 X G k x0 x1 x2 x3 x4 x5 x6 x7 x8 x9 x10 x11 x12) := (((((((((((((h.setCell hn _).setCell hn _).setCell hn _).setCell hn _).setCell hn _).setCell hn _).setCell hn _).setCell hn _).setCell hn _).setCell hn _).setCell hn _).setCell hn _).setCell hn _)
theorem put13_cells {X : World} {G n : Nat} (k : Nat) (x0 x1 x2 x3 x4 x5 x6 x7 x8 x9 x10 x11 x12 : Value) (h : HRoom X G n) (hk : k * 13 + 13 ≤ n) : (put13 X G k x0 x1 x2 x3 x4 x5 x6 x7 x8 x9 x10 x11 x12).cell? ⟨G, k * 13, none⟩ = some x0 ∧ (put13 X G k x0 x1 x2 x3 x4 x5 x6 x7 x8 x9 x10 x11 x12).cell? ⟨G, k * 13 + 1, none⟩ = some x1 ∧ (put13 X G k x0 x1 x2 x3 x4 x5 x6 x7 x8 x9 x10 x11 x12).cell? ⟨G, k * 13 + 2, none⟩ = some x2 ∧ (put13 X G k x0 x1 x2 x3 x4 x5 x6 x7 x8 x9 x10 x11 x12).cell? ⟨G, k * 13 + 3, none⟩ = some x3 ∧ (put13 X G k x0 x1 x2 x3 x4 x5 x6 x7 x8 x9 x10 x11 x12).cell? ⟨G, k * 13 + 4, none⟩ = some x4 ∧ (put13 X G k x0 x1 x2 x3 x4 x5 x6 x7 x8 x9 x10 x11 x12).cell? ⟨G, k * 13 + 5, none⟩ = some x5 ∧ (put13 X G k x0 x1 x2 x3 x4 x5 x6 x7 x8 x9 x10 x11 x12).cell? ⟨G, k * 13 + 6, none⟩ = some x6 ∧ (put13 X G k x0 x1 x2 x3 x4 x5 x6 x7 x8 x9 x10 x11 x12).cell? ⟨G, k * 13 + 7, none⟩ = some x7 ∧ (put13 X G k x0 x1 x2 x3 x4 x5 x6 x7 x8 x9 x10 x11 x12).cell? ⟨G, k * 13 + 8, none⟩ = some x8 ∧ (put13 X G k x0 x1 x2 x3 x4 x5 x6 x7 x8 x9 x10 x11 x12).cell? ⟨G, k * 13 + 9, none⟩ = some x9 ∧ (put13 X G k x0 x1 x2 x3 x4 x5 x6 x7 x8 x9 x10 x11 x12).cell? ⟨G, k * 13 + 10, none⟩ = some x10 ∧ (put13 X G k x0 x1 x2 x3 x4 x5 x6 x7 x8 x9 x10 x11 x12).cell? ⟨G, k * 13 + 11, none⟩ = some x11 ∧ (put13 X G k x0 x1 x2 x3 x4 x5 x6 x7 x8 x9 x10 x11 x12).cell? ⟨G, k * 13 + 12, none⟩ = some x12 := by
  refine ⟨?_, ?_, ?_, ?_, ?_, ?_, ?_, ?_, ?_, ?_, ?_, ?_, ?_⟩
  · obtain ⟨⟨u, g⟩, _⟩ := h (k * 13) (by omega)
    unfold put13
    rw [World.cell?_setCell_other _ _ _ _ (hoff_ne (by omega)), World.cell?_setCell_other _ _ _ _ (hoff_ne (by omega)), World.cell?_setCell_other _ _ _ _ (hoff_ne (by omega)), World.cell?_setCell_other _ _ _ _ (hoff_ne (by omega)), World.cell?_setCell_other _ _ _ _ (hoff_ne (by omega)), World.cell?_setCell_other _ _ _ _ (hoff_ne (by omega)), World.cell?_setCell_other _ _ _ _ (hoff_ne (by omega)), World.cell?_setCell_other _ _ _ _ (hoff_ne (by omega)), World.cell?_setCell_other _ _ _ _ (hoff_ne (by omega)), World.cell?_setCell_other _ _ _ _ (hoff_ne (by omega)), World.cell?_setCell_other _ _ _ _ (hoff_ne (by omega)), World.cell?_setCell_other _ _ _ _ (hoff_ne (by omega))]
    exact World.cell?_setCell_same _ _ _ g
  · obtain ⟨⟨u, g⟩, _⟩ := (h.set ⟨G, k * 13, none⟩ x0) (k * 13 + 1) (by omega)
    unfold put13
    rw [World.cell?_setCell_other _ _ _ _ (hoff_ne (by omega)), World.cell?_setCell_other _ _ _ _ (hoff_ne (by omega)), World.cell?_setCell_other _ _ _ _ (hoff_ne (by omega)), World.cell?_setCell_other _ _ _ _ (hoff_ne (by omega)), World.cell?_setCell_other _ _ _ _ (hoff_ne (by omega)), World.cell?_setCell_other _ _ _ _ (hoff_ne (by omega)), World.cell?_setCell_other _ _ _ _ (hoff_ne (by omega)), World.cell?_setCell_other _ _ _ _ (hoff_ne (by omega)), World.cell?_setCell_other _ _ _ _ (hoff_ne (by omega)), World.cell?_setCell_other _ _ _ _ (hoff_ne (by omega)), World.cell?_setCell_other _ _ _ _ (hoff_ne (by omega))]
    exact World.cell?_setCell_same _ _ _ g
  · obtain ⟨⟨u, g⟩, _⟩ := ((h.set ⟨G, k * 13, none⟩ x0).set ⟨G, k * 13 + 1, none⟩ x1) (k * 13 + 2) (by omega)
    unfold put13
    rw [World.cell?_setCell_other _ _ _ _ (hoff_ne (by omega)), World.cell?_setCell_other _ _ _ _ (hoff_ne (by omega)), World.cell?_setCell_other _ _ _ _ (hoff_ne (by omega)), World.cell?_setCell_other _ _ _ _ (hoff_ne (by omega)), World.cell?_setCell_other _ _ _ _ (hoff_ne (by omega)), World.cell?_setCell_other _ _ _ _ (hoff_ne (by omega)), World.cell?_setCell_other _ _ _ _ (hoff_ne (by omega)), World.cell?_setCell_other _ _ _ _ (hoff_ne (by omega)), World.cell?_setCell_other _ _ _ _ (hoff_ne (by omega)), World.cell?_setCell_other _ _ _ _ (hoff_ne (by omega))]
    exact World.cell?_setCell_same _ _ _ g
  · obtain ⟨⟨u, g⟩, _⟩ := (((h.set ⟨G, k * 13, none⟩ x0).set ⟨G, k * 13 + 1, none⟩ x1).set ⟨G, k * 13 + 2, none⟩ x2) (k * 13 + 3) (by omega)
    unfold put13
    rw [World.cell?_setCell_other _ _ _ _ (hoff_ne (by omega)), World.cell?_setCell_other _ _ _ _ (hoff_ne (by omega)), World.cell?_setCell_other _ _ _ _ (hoff_ne (by omega)), World.cell?_setCell_other _ _ _ _ (hoff_ne (by omega)), World.cell?_setCell_other _ _ _ _ (hoff_ne (by omega)), World.cell?_setCell_other _ _ _ _ (hoff_ne (by omega)), World.cell?_setCell_other _ _ _ _ (hoff_ne (by omega)), World.cell?_setCell_other _ _ _ _ (hoff_ne (by omega)), World.cell?_setCell_other _ _ _ _ (hoff_ne (by omega))]
    exact World.cell?_setCell_same _ _ _ g
  · obtain ⟨⟨u, g⟩, _⟩ := ((((h.set ⟨G, k * 13, none⟩ x0).set ⟨G, k * 13 + 1, none⟩ x1).set ⟨G, k * 13 + 2, none⟩ x2).set ⟨G, k * 13 + 3, none⟩ x3) (k * 13 + 4) (by omega)
    unfold put13
    rw [World.cell?_setCell_other _ _ _ _ (hoff_ne (by omega)), World.cell?_setCell_other _ _ _ _ (hoff_ne (by omega)), World.cell?_setCell_other _ _ _ _ (hoff_ne (by omega)), World.cell?_setCell_other _ _ _ _ (hoff_ne (by omega)), World.cell?_setCell_other _ _ _ _ (hoff_ne (by omega)), World.cell?_setCell_other _ _ _ _ (hoff_ne (by omega)), World.cell?_setCell_other _ _ _ _ (hoff_ne (by omega)), World.cell?_setCell_other _ _ _ _ (hoff_ne (by omega))]
    exact World.cell?_setCell_same _ _ _ g
  · obtain ⟨⟨u, g⟩, _⟩ := (((((h.set ⟨G, k * 13, none⟩ x0).set ⟨G, k * 13 + 1, none⟩ x1).set ⟨G, k * 13 + 2, none⟩ x2).set ⟨G, k * 13 + 3, none⟩ x3).set ⟨G, k * 13 + 4, none⟩ x4) (k * 13 + 5) (by omega)
    unfold put13
    rw [World.cell?_setCell_other _ _ _ _ (hoff_ne (by omega)), World.cell?_setCell_other _ _ _ _ (hoff_ne (by omega)), World.cell?_setCell_other _ _ _ _ (hoff_ne (by omega)), World.cell?_setCell_other _ _ _ _ (hoff_ne (by omega)), World.cell?_setCell_other _ _ _ _ (hoff_ne (by omega)), World.cell?_setCell_other _ _ _ _ (hoff_ne (by omega)), World.cell?_setCell_other _ _ _ _ (hoff_ne (by omega))]
    exact World.cell?_setCell_same _ _ _ g
  · obtain ⟨⟨u, g⟩, _⟩ := ((((((h.set ⟨G, k * 13, none⟩ x0).set ⟨G, k * 13 + 1, none⟩ x1).set ⟨G, k * 13 + 2, none⟩ x2).set ⟨G, k * 13 + 3, none⟩ x3).set ⟨G, k * 13 + 4, none⟩ x4).set ⟨G, k * 13 + 5, none⟩ x5) (k * 13 + 6) (by omega)
    unfold put13
    rw [World.cell?_setCell_other _ _ _ _ (hoff_ne (by omega)), World.cell?_setCell_other _ _ _ _ (hoff_ne (by omega)), World.cell?_setCell_other _ _ _ _ (hoff_ne (by omega)), World.cell?_setCell_other _ _ _ _ (hoff_ne (by omega)), World.cell?_setCell_other _ _ _ _ (hoff_ne (by omega)), World.cell?_setCell_other _ _ _ _ (hoff_ne (by omega))]
    exact World.cell?_setCell_same _ _ _ g
  · obtain ⟨⟨u, g⟩, _⟩ := (((((((h.set ⟨G, k * 13, none⟩ x0).set ⟨G, k * 13 + 1, none⟩ x1).set ⟨G, k * 13 + 2, none⟩ x2).set ⟨G, k * 13 + 3, none⟩ x3).set ⟨G, k * 13 + 4, none⟩ x4).set ⟨G, k * 13 + 5, none⟩ x5).set ⟨G, k * 13 + 6, none⟩ x6) (k * 13 + 7) (by omega)
    unfold put13
    rw [World.cell?_setCell_other _ _ _ _ (hoff_ne (by omega)), World.cell?_setCell_other _ _ _ _ (hoff_ne (by omega)), World.cell?_setCell_other _ _ _ _ (hoff_ne (by omega)), World.cell?_setCell_other _ _ _ _ (hoff_ne (by omega)), World.cell?_setCell_other _ _ _ _ (hoff_ne (by omega))]
    exact World.cell?_setCell_same _ _ _ g
  · obtain ⟨⟨u, g⟩, _⟩ := ((((((((h.set ⟨G, k * 13, none⟩ x0).set ⟨G, k * 13 + 1, none⟩ x1).set ⟨G, k * 13 + 2, none⟩ x2).set ⟨G, k * 13 + 3, none⟩ x3).set ⟨G, k * 13 + 4, none⟩ x4).set ⟨G, k * 13 + 5, none⟩ x5).set ⟨G, k * 13 + 6, none⟩ x6).set ⟨G, k * 13 + 7, none⟩ x7) (k * 13 + 8) (by omega)
    unfold put13
    rw [World.cell?_setCell_other _ _ _ _ (hoff_ne (by omega)), World.cell?_setCell_other _ _ _ _ (hoff_ne (by omega)), World.cell?_setCell_other _ _ _ _ (hoff_ne (by omega)), World.cell?_setCell_other _ _ _ _ (hoff_ne (by omega))]
    exact World.cell?_setCell_same _ _ _ g
  · obtain ⟨⟨u, g⟩, _⟩ := (((((((((h.set ⟨G, k * 13, none⟩ x0).set ⟨G, k * 13 + 1, none⟩ x1).set ⟨G, k * 13 + 2, none⟩ x2).set ⟨G, k * 13 + 3, none⟩ x3).set ⟨G, k * 13 + 4, none⟩ x4).set ⟨G, k * 13 + 5, none⟩ x5).set ⟨G, k * 13 + 6, none⟩ x6).set ⟨G, k * 13 + 7, none⟩ x7).set ⟨G, k * 13 + 8, none⟩ x8) (k * 13 + 9) (by omega)
    unfold put13
    rw [World.cell?_setCell_other _ _ _ _ (hoff_ne (by omega)), World.cell?_setCell_other _ _ _ _ (hoff_ne (by omega)), World.cell?_setCell_other _ _ _ _ (hoff_ne (by omega))]
    exact World.cell?_setCell_same _ _ _ g
  · obtain ⟨⟨u, g⟩, _⟩ := ((((((((((h.set ⟨G, k * 13, none⟩ x0).set ⟨G, k * 13 + 1, none⟩ x1).set ⟨G, k * 13 + 2, none⟩ x2).set ⟨G, k * 13 + 3, none⟩ x3).set ⟨G, k * 13 + 4, none⟩ x4).set ⟨G, k * 13 + 5, none⟩ x5).set ⟨G, k * 13 + 6, none⟩ x6).set ⟨G, k * 13 + 7, none⟩ x7).set ⟨G, k * 13 + 8, none⟩ x8).set ⟨G, k * 13 + 9, none⟩ x9) (k * 13 + 10) (by omega)
    unfold put13
    rw [World.cell?_setCell_other _ _ _ _ (hoff_ne (by omega)), World.cell?_setCell_other _ _ _ _ (hoff_ne (by omega))]
    exact World.cell?_setCell_same _ _ _ g
  · obtain ⟨⟨u, g⟩, _⟩ := (((((((((((h.set ⟨G, k * 13, none⟩ x0).set ⟨G, k * 13 + 1, none⟩ x1).set ⟨G, k * 13 + 2, none⟩ x2).set ⟨G, k * 13 + 3, none⟩ x3).set ⟨G, k * 13 + 4, none⟩ x4).set ⟨G, k * 13 + 5, none⟩ x5).set ⟨G, k * 13 + 6, none⟩ x6).set ⟨G, k * 13 + 7, none⟩ x7).set ⟨G, k * 13 + 8, none⟩ x8).set ⟨G, k * 13 + 9, none⟩ x9).set ⟨G, k * 13 + 10, none⟩ x10) (k * 13 + 11) (by omega)
    unfold put13
    rw [World.cell?_setCell_other _ _ _ _ (hoff_ne (by omega))]
    exact World.cell?_setCell_same _ _ _ g
  · obtain ⟨⟨u, g⟩, _⟩ := ((((((((((((h.set ⟨G, k * 13, none⟩ x0).set ⟨G, k * 13 + 1, none⟩ x1).set ⟨G, k * 13 + 2, none⟩ x2).set ⟨G, k * 13 + 3, none⟩ x3).set ⟨G, k * 13 + 4, none⟩ x4).set ⟨G, k * 13 + 5, none⟩ x5).set ⟨G, k * 13 + 6, none⟩ x6).set ⟨G, k * 13 + 7, none⟩ x7).set ⟨G, k * 13 + 8, none⟩ x8).set ⟨G, k * 13 + 9, none⟩ x9).set ⟨G, k * 13 + 10, none⟩ x10).set ⟨G, k * 13 + 11, none⟩ x11) (k * 13 + 12) (by omega)
    unfold put13
    exact World.cell?_setCell_same _ _ _ g
def putE (X : World) (G k : Nat) (x : Ent) (r : EntR) : World := put13 X G k (.string x.key) (.int .i64 x.st) (.slice r.ha x.hs.length r.hc) (.slice r.ba x.bl.length r.bc) (.int .i64 x.t) (.int .i64 x.g) (.int .i64 x.l) (.int .i64 x.s) (.int .i64 x.e) (.bool x.b1) (.bool x.b2) (.slice r.ta x.ts.length r.tc) (.int .i64 x.pins)
theorem putE_own {X : World} {G k : Nat} {y : Ent} {s : EntR} (x : Ent) (r : EntR) (hk : EntOwn X y s) (h : G < blk s.ha) : EntOwn (putE X G k x r) y s := (((((((((((((hk.off1 _ h).off1 _ h).off1 _ h).off1 _ h).off1 _ h).off1 _ h).off1 _ h).off1 _ h).off1 _ h).off1 _ h).off1 _ h).off1 _ h).off1 _ h)
theorem EntsMine.put {W : World} {G n : Nat} {l : List (Ent × EntR)} (h : EntsMine W G l) (x : Ent) (r : EntR) (hm : HRoom W G n) (hn : l.length * 13 + 13 ≤ n) (ho : EntOwn W x r) (hu : G < blk r.ha) (hp : ∀ q ∈ l, blk q.2.ta < blk r.ha) : EntsMine (putE W G l.length x r) G (l ++ [(x, r)]) := by
  refine ⟨?_, fun o => ?_, ?_, ?_, ?_, ?_⟩
  · intro i q hq j hj
    have hi : i < l.length + 1 := by have := (List.getElem?_eq_some_iff.1 hq).1; simpa using this
    by_cases e : i = l.length
    · subst e
      rw [List.getElem?_append_right (Nat.le_refl _), Nat.sub_self] at hq
      obtain rfl := Option.some.inj hq
      have c := put13_cells l.length (.string x.key) (.int .i64 x.st) (.slice r.ha x.hs.length r.hc) (.slice r.ba x.bl.length r.bc) (.int .i64 x.t) (.int .i64 x.g) (.int .i64 x.l) (.int .i64 x.s) (.int .i64 x.e) (.bool x.b1) (.bool x.b2) (.slice r.ta x.ts.length r.tc) (.int .i64 x.pins) hm hn
      match j, hj with
      | 0, _ => exact c.1
      | 1, _ => exact c.2.1
      | 2, _ => exact c.2.2.1
      | 3, _ => exact c.2.2.2.1
      | 4, _ => exact c.2.2.2.2.1
      | 5, _ => exact c.2.2.2.2.2.1
      | 6, _ => exact c.2.2.2.2.2.2.1
      | 7, _ => exact c.2.2.2.2.2.2.2.1
      | 8, _ => exact c.2.2.2.2.2.2.2.2.1
      | 9, _ => exact c.2.2.2.2.2.2.2.2.2.1
      | 10, _ => exact c.2.2.2.2.2.2.2.2.2.2.1
      | 11, _ => exact c.2.2.2.2.2.2.2.2.2.2.2.1
      | 12, _ => exact c.2.2.2.2.2.2.2.2.2.2.2.2
    · rw [List.getElem?_append_left (by omega)] at hq
      have c := h.cell i q hq j hj
      unfold putE
      rw [put13_other _ _ _ _ _ _ _ _ _ _ _ _ _ _ _ _ _ (by omega)]
      exact c
  · unfold putE; rw [put13_free]; exact h.free o
  · unfold putE; rw [put13_size]; exact h.lt
  · intro q hq
    rcases List.mem_append.1 hq with hq | hq
    · exact putE_own _ _ (h.own q hq) (h.up q hq)
    · obtain rfl := List.mem_singleton.1 hq
      exact putE_own _ _ ho hu
  · intro q hq
    rcases List.mem_append.1 hq with hq | hq
    · exact h.up q hq
    · obtain rfl := List.mem_singleton.1 hq
      exact hu
  · refine List.pairwise_append.2 ⟨h.pw, List.pairwise_singleton _ _, fun q hq q' hq' => ?_⟩
    obtain rfl := List.mem_singleton.1 hq'
    exact hp q hq
/-- What fits. -/
structure EntFit (x : Ent) : Prop where
  h : x.hs.length ≤ 1048576
  b : x.bl.length ≤ 1048576
  t : x.ts.length ≤ 1048576
end Go.Proofs.YthiiaefdobpjhaaGreatDoor
/-
  Two lists of entries that are alike, compared by the laws.
-/
namespace Go.Proofs.YthiiaefdobpjhaaGreatDoor
open Go.ChangeShapes Go.WideShapes Go.ChangeAt Go.RowKit Go.Sort
end Go.Proofs.YthiiaefdobpjhaaGreatDoor
/-
  Entries that are pointed at: rows of pointers that are one's own.
-/
namespace Go.Proofs.YthiiaefdobpjhaaGreatDoor
open Go.ChangeShapes Go.WideShapes Go.ChangeAt Go.RowKit Go.Sort
/-- An entry and where it lies. -/
structure Hdl where
  b : Nat
  o : Nat
  x : Ent
  r : EntR
def hP (h : Hdl) : Value := .pointer (some ⟨h.b, h.o, none⟩)
/-- It lies there. -/
def HThere (w : World) (h : Hdl) : Prop := (∀ j, j < 13 → w.cell? ⟨h.b, h.o + j, none⟩ = (entW h.x h.r)[j]?) ∧ EntIn w h.x h.r
theorem HThere.lt {w : World} {h : Hdl} (k : HThere w h) : h.b < w.heap.size := block_lt_of_cell (k.1 0 (by omega))
theorem HThere.keep {w w' : World} {h : Hdl} (k : HThere w h) (hb : Below w.heap.size w w') : HThere w' h :=
  ⟨fun j hj => by rw [hb.cell (p := ⟨h.b, h.o + j, none⟩) k.lt]; exact k.1 j hj, k.2.keep hb⟩
theorem HThere.cells {w : World} {h : Hdl} (k : HThere w h) : w.cell? ⟨h.b, h.o, none⟩ = some (.string h.x.key) ∧ w.cell? ⟨h.b, h.o + 1, none⟩ = some (.int .i64 h.x.st) ∧ w.cell? ⟨h.b, h.o + 2, none⟩ = some (.slice h.r.ha h.x.hs.length h.r.hc) ∧ w.cell? ⟨h.b, h.o + 3, none⟩ = some (.slice h.r.ba h.x.bl.length h.r.bc) ∧ w.cell? ⟨h.b, h.o + 4, none⟩ = some (.int .i64 h.x.t) ∧ w.cell? ⟨h.b, h.o + 5, none⟩ = some (.int .i64 h.x.g) ∧ w.cell? ⟨h.b, h.o + 6, none⟩ = some (.int .i64 h.x.l) ∧ w.cell? ⟨h.b, h.o + 7, none⟩ = some (.int .i64 h.x.s) ∧ w.cell? ⟨h.b, h.o + 8, none⟩ = some (.int .i64 h.x.e) ∧ w.cell? ⟨h.b, h.o + 9, none⟩ = some (.bool h.x.b1) ∧ w.cell? ⟨h.b, h.o + 10, none⟩ = some (.bool h.x.b2) ∧ w.cell? ⟨h.b, h.o + 11, none⟩ = some (.slice h.r.ta h.x.ts.length h.r.tc) ∧ w.cell? ⟨h.b, h.o + 12, none⟩ = some (.int .i64 h.x.pins) :=
  ⟨k.1 0 (by omega), k.1 1 (by omega), k.1 2 (by omega), k.1 3 (by omega), k.1 4 (by omega), k.1 5 (by omega), k.1 6 (by omega), k.1 7 (by omega), k.1 8 (by omega), k.1 9 (by omega), k.1 10 (by omega), k.1 11 (by omega), k.1 12 (by omega)⟩
/-- The entries of a list, each where it lies. -/
def hdls (b off : Nat) (l : List (Ent × EntR)) : List Hdl := l.mapIdx (fun i q => ⟨b, off + i * 13, q.1, q.2⟩)
theorem hdls_at {b off : Nat} {l : List (Ent × EntR)} {i : Nat} {q : Ent × EntR} (h : l[i]? = some q) : (hdls b off l)[i]? = some ⟨b, off + i * 13, q.1, q.2⟩ := by
  unfold hdls
  rw [List.getElem?_mapIdx, h]
  rfl
theorem hdls_len (b off : Nat) (l : List (Ent × EntR)) : (hdls b off l).length = l.length := by simp [hdls]
theorem hdls_x (b off : Nat) (l : List (Ent × EntR)) : (hdls b off l).map Hdl.x = l.map Prod.fst := by
  refine List.ext_getElem? fun i => ?_
  rw [List.getElem?_map, List.getElem?_map]
  unfold hdls
  rw [List.getElem?_mapIdx]
  cases l[i]? <;> rfl
theorem hdls_there {w : World} {b off : Nat} {l : List (Ent × EntR)} (h : EntsAt w b off l) : ∀ k ∈ hdls b off l, HThere w k := by
  intro k hk
  obtain ⟨i, hi⟩ := List.mem_iff_getElem?.1 hk
  unfold hdls at hi
  rw [List.getElem?_mapIdx] at hi
  obtain ⟨q, hq, rfl⟩ := Option.map_eq_some_iff.1 hi
  exact h i q hq
theorem row_off {w : World} {base : Nat} {e : TypeId} {size : Nat} {v : Value} {n : Nat} {xs : List Value} (h : w.ownsRow base e size v n xs) {b i : Nat} (u : Value) (hb : b < base) : (w.setCell ⟨b, i, none⟩ u).ownsRow base e size v n xs := by
  obtain ⟨h1, h2⟩ := h
  refine ⟨h1, ?_⟩
  rcases h2 with h2 | ⟨g, c, cur, e', hg, hh, hrest⟩
  · exact .inl h2
  · exact .inr ⟨g, c, cur, e', hg, by rw [heap_setCell_other w ⟨b, i, none⟩ g u (by simp only; omega)]; exact hh, hrest⟩
theorem made_one (z : Value) (hz : z.cells = #[z]) (n : Nat) : (madeCells z.cells (n * 1)).toList = List.replicate n z := by
  rw [hz, Nat.mul_one]
  refine List.ext_getElem? fun i => ?_
  by_cases hi : i < n
  · rw [List.getElem?_replicate_of_lt hi]
    simp [madeCells, hi, Nat.mod_one]
  · rw [List.getElem?_eq_none (by simp [madeCells]; omega), List.getElem?_eq_none (by simp; omega)]
theorem ptr_one (hs : List Hdl) : ∀ u ∈ hs.map hP, u.oneCell' = true := by
  intro u hu
  obtain ⟨h, _, rfl⟩ := List.mem_map.1 hu
  rfl
theorem set_fill {z : Value} : ∀ (ps : List Value) (k : Nat) (p : Value), ps[k]? = some p → (ps.take k ++ List.replicate (ps.length - k) z).set k p = ps.take (k + 1) ++ List.replicate (ps.length - (k + 1)) z := by
  intro ps k p h
  obtain ⟨hk, rfl⟩ := List.getElem?_eq_some_iff.1 h
  have hlen : (ps.take k).length = k := by simp; omega
  rw [List.set_append_right _ _ (by rw [hlen]; exact Nat.le_refl _), hlen, Nat.sub_self, List.take_succ_eq_append_getElem hk]
  obtain ⟨m, hm⟩ : ∃ m, ps.length - k = m + 1 := ⟨ps.length - k - 1, by omega⟩
  rw [hm, List.replicate_succ, List.set_cons_zero, show ps.length - (k + 1) = m from by omega, List.append_assoc]
  rfl
end Go.Proofs.YthiiaefdobpjhaaGreatDoor
/-
  An entry that is copied, by the model.
-/
namespace Go.Proofs.YthiiaefdobpjhaaGreatDoor
open Go.ChangeShapes Go.WideShapes Go.ChangeAt Go.RowKit Go.Sort
/-- An entry whose lists are rows of its own. -/
structure EntRow (w : World) (base : Nat) (x : Ent) (r : EntR) : Prop where
  h : RowH w base (.slice r.ha x.hs.length r.hc) x.hs
  b : RowB w base (.slice r.ba x.bl.length r.bc) x.bl
  t : RowT w base (.slice r.ta x.ts.length r.tc) x.ts
  n1 : r.ha = none ∨ r.ha ≠ r.ba
  n2 : r.ha = none ∨ r.ha ≠ r.ta
  n3 : r.ba = none ∨ r.ba ≠ r.ta
theorem row_off2 {w : World} {base : Nat} {e : TypeId} {size : Nat} {v : Value} {n : Nat} {xs : List Value} (h : w.ownsRow base e size v n xs) {b i : Nat} (u : Value) (hb : b < base) : (w.setCell ⟨b, i, none⟩ u).ownsRow base e size v n xs := row_off h u hb
theorem EntRow.in {w : World} {base : Nat} {x : Ent} {r : EntR} (h : EntRow w base x r) : EntIn w x r := by
  obtain ⟨a1, c1, e1, l1, i1⟩ := h.h.in
  obtain ⟨a2, c2, e2, l2, i2⟩ := h.b.in
  obtain ⟨a3, c3, e3, l3, i3⟩ := h.t.in
  simp only [Value.slice.injEq, true_and] at e1 e2 e3
  obtain ⟨r1, r2⟩ := e1
  obtain ⟨r3, r4⟩ := e2
  obtain ⟨r5, r6⟩ := e3
  exact ⟨r1 ▸ i1, r3 ▸ i2, r5 ▸ i3, by omega, by omega, by omega⟩
theorem EntRow.below {w w' : World} {base : Nat} {x : Ent} {r : EntR} (h : EntRow w base x r) (hb : Below w.heap.size w w') : EntRow w' base x r := ⟨row_below h.h hb, row_below h.b hb, row_below h.t hb, h.n1, h.n2, h.n3⟩
theorem EntRow.lower {w : World} {b0 base : Nat} {x : Ent} {r : EntR} (h : EntRow w base x r) (hb : b0 ≤ base) : EntRow w b0 x r := ⟨row_lower h.h hb, row_lower h.b hb, row_lower h.t hb, h.n1, h.n2, h.n3⟩
theorem EntRow.off1 {w : World} {base : Nat} {x : Ent} {r : EntR} (h : EntRow w base x r) {b i : Nat} (u : Value) (hb : b < base) : EntRow (w.setCell ⟨b, i, none⟩ u) base x r := ⟨row_off h.h u hb, row_off h.b u hb, row_off h.t u hb, h.n1, h.n2, h.n3⟩
theorem row_apart {w w' : World} {b1 b2 : Nat} {e1 e2 : TypeId} {s1 s2 : Nat} {a1 a2 : Option Addr} {n1 n2 c1 c2 : Nat} {x1 x2 : List Value} (h1 : w.ownsRow b1 e1 s1 (.slice a1 n1 c1) n1 x1) (h2 : w'.ownsRow b2 e2 s2 (.slice a2 n2 c2) n2 x2) (hb : w.heap.size ≤ b2) : a1 = none ∨ a1 ≠ a2 := by
  cases a1 with
  | none => exact .inl rfl
  | some p =>
    refine .inr fun e => ?_
    subst e
    have l1 := (World.ownsRow.lt h1 p.block rfl).2
    have l2 := (World.ownsRow.lt h2 p.block rfl).1
    omega
end Go.Proofs.YthiiaefdobpjhaaGreatDoor
