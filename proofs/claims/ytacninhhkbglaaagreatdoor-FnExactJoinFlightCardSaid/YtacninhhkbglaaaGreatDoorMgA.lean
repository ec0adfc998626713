/-
  Texts of one claim, one behind the other.
-/
import Derived.Below
import Derived.BigQuiet
import Derived.Deep.AppendLies
import Derived.Deep.CutBlock
import Derived.Deep.CutRange
import Derived.Deep.MidRow
import Derived.Deep.RegionHeld3
import Derived.Deep.RegionWith
import Derived.Deep.Slices
import Derived.Deep.Strs
import Derived.Deep.WholeRow
import Derived.Laws.Cells
import Derived.Laws.IdiomCopy
import Derived.Laws.IdiomStrings
import Derived.Laws.OwnMore
import Derived.Lib.QuietBelow
import Derived.OpenShut
import Derived.ProofKit
import Derived.StillTail
import Derived.Test.YtacninhhkbglaaaGreatDoorProg
import Derived.WalkKit
import Derived.WalkLawsBesides
import Derived.WalkSpells
/-
  Small lemmas that the walks share.
-/
namespace Go.Proofs.YtacninhhkbglaaaGreatDoor
open Go.ChangeShapes Go.WideShapes Go.ChangeAt Go.RowKit
theorem bcell {W w1 : World} (hb : Below W.heap.size W w1) : (∀ b o, b < W.heap.size → w1.cell? ⟨b, o, none⟩ = W.cell? ⟨b, o, none⟩) ∧ (∀ b o, b < W.heap.size → w1.frozen? ⟨b, o, none⟩ = W.frozen? ⟨b, o, none⟩) :=
  ⟨fun b o h => hb.cell (p := ⟨b, o, none⟩) h, fun b o h => hb.frozen (p := ⟨b, o, none⟩) h⟩
theorem two_set {w : World} {B : Nat} {u0 u1 v0 v1 : Value} (p0 : w.cell? ⟨B, 0, none⟩ = some u0) (p1 : w.cell? ⟨B, 1, none⟩ = some u1) :
    ((w.setCell ⟨B, 0, none⟩ v0).setCell ⟨B, 1, none⟩ v1).cell? ⟨B, 0, none⟩ = some v0 ∧ ((w.setCell ⟨B, 0, none⟩ v0).setCell ⟨B, 1, none⟩ v1).cell? ⟨B, 1, none⟩ = some v1 := by
  constructor
  · rw [World.cell?_setCell_other _ _ _ _ (by intro h; have := congrArg Addr.off h; simp at this), World.cell?_setCell_same _ _ _ p0]
  · refine World.cell?_setCell_same _ _ _ (u := u1) ?_
    rw [World.cell?_setCell_other _ _ _ _ (by intro h; have := congrArg Addr.off h; simp at this), p1]
theorem ret_int {k : IntKind} {a b : Int} (h : a = b) : Ending.returned (.int k a) = .returned (.int k b) := by rw [h]
theorem ret_bool {a b : Bool} (h : a = b) : Ending.returned (.bool a) = .returned (.bool b) := by rw [h]
theorem ret_str {a b : ByteArray} (h : a = b) : Ending.returned (.string a) = .returned (.string b) := by rw [h]
theorem take_snoc (s : ByteArray) (k : Nat) (h : k < s.size) : s.data.toList.take (k + 1) = s.data.toList.take k ++ [s[k]] := by
  rw [List.take_succ_eq_append_getElem (by simpa using h)]; rfl
end Go.Proofs.YtacninhhkbglaaaGreatDoor
/-
  What a law keeps in memory while it goes on: facts that hang on the blocks of a stretch alone.
-/
namespace Go.Proofs.YtacninhhkbglaaaGreatDoor
open Go.ChangeShapes Go.WideShapes Go.ChangeAt Go.RowKit
theorem hidL {p : Prop} (h : p) : Hid p := h
/-- What C says hangs on the blocks from l up to h alone. -/
def Dep (l h : Nat) (C : World → Prop) : Prop :=
  ∀ X X' : World, h ≤ X.heap.size → X.heap.size ≤ X'.heap.size → (∀ b o, l ≤ b → b < h → X'.cell? ⟨b, o, none⟩ = X.cell? ⟨b, o, none⟩ ∧ X'.frozen? ⟨b, o, none⟩ = X.frozen? ⟨b, o, none⟩) → C X → C X'
structure At (l h : Nat) (C : Nat → Nat → World → Prop) (X : World) : Prop where
  le : h ≤ X.heap.size
  dep : Dep l h (C l h)
  val : C l h X
/-- Nothing is written but in the blocks from lo up to hi, and in new ones. -/
structure Wi (lo hi : Nat) (X X' : World) : Prop where
  size : X.heap.size ≤ X'.heap.size
  cell : ∀ b o, b < X.heap.size → (b < lo ∨ hi ≤ b) → X'.cell? ⟨b, o, none⟩ = X.cell? ⟨b, o, none⟩
  frozen : ∀ b o, b < X.heap.size → (b < lo ∨ hi ≤ b) → X'.frozen? ⟨b, o, none⟩ = X.frozen? ⟨b, o, none⟩
theorem At.wi {l h lo hi : Nat} {C : Nat → Nat → World → Prop} {X X' : World} (k : At l h C X) (g : Wi lo hi X X') (hd : h ≤ lo ∨ hi ≤ l) : At l h C X' :=
  ⟨Nat.le_trans k.le g.size, k.dep, k.dep X X' k.le g.size (fun b o h1 h2 => ⟨g.cell b o (Nat.lt_of_lt_of_le h2 k.le) (by omega), g.frozen b o (Nat.lt_of_lt_of_le h2 k.le) (by omega)⟩) k.val⟩
theorem Wi.of {lo hi : Nat} {X X' : World} (hb : Below X.heap.size X X') : Wi lo hi X X' :=
  ⟨hb.size, fun b o h _ => hb.cell (p := ⟨b, o, none⟩) h, fun b o h _ => hb.frozen (p := ⟨b, o, none⟩) h⟩
theorem At.keep {l h : Nat} {C : Nat → Nat → World → Prop} {X X' : World} (k : At l h C X) (hb : Below X.heap.size X X') : At l h C X' :=
  k.wi (lo := h) (hi := h) (Wi.of hb) (.inl (Nat.le_refl _))
theorem At.al {l h : Nat} {C : Nat → Nat → World → Prop} {X : World} (k : At l h C X) (o : Obj) : At l h C (X.alloc o) := k.keep ((Below.refl _ _).alloc (Nat.le_refl _) _)
theorem At.set {l h : Nat} {C : Nat → Nat → World → Prop} {X : World} (k : At l h C X) {b i : Nat} (u : Value) (hd : b < l ∨ h ≤ b) : At l h C (X.setCell ⟨b, i, none⟩ u) :=
  k.wi (lo := b) (hi := b + 1) ⟨by simp, fun b' o _ hne => World.cell?_setCell_other _ _ _ _ (fun e => by have := congrArg Addr.block e; simp only at this; omega), fun b' o _ _ => by rw [World.frozen?_setCell]⟩ (by omega)
/-- A box that lies there. -/
def Bx (b : Nat) (vs : List Value) (_ _ : Nat) (X : World) : Prop := (∀ i v, vs[i]? = some v → X.cell? ⟨b, i, none⟩ = some v) ∧ ∀ o, X.frozen? ⟨b, o, none⟩ = false
theorem Bx.dep (b : Nat) (vs : List Value) (l h : Nat) : Dep b (b + 1) (Bx b vs l h) := fun X X' _ _ h k =>
  ⟨fun i v hv => by rw [(h b i (Nat.le_refl _) (Nat.lt_succ_self _)).1]; exact k.1 i v hv, fun o => by rw [(h b o (Nat.le_refl _) (Nat.lt_succ_self _)).2]; exact k.2 o⟩
theorem Bx.new (X : World) (vs : List Value) (t : TypeId) : At X.heap.size (X.heap.size + 1) (Bx X.heap.size vs) (X.alloc (.cells vs.toArray t)) := by
  refine ⟨by simp, Bx.dep _ _ _ _, fun i v hv => ?_, fun o => ?_⟩
  · rw [World.cell?_alloc_mark]
    simpa using hv
  · have e := heap_alloc_new X (.cells vs.toArray t)
    unfold World.frozen?
    rw [e]
    simp
theorem Bx.newAt {X : World} {b : Nat} (hb : X.heap.size = b) (vs : List Value) (t : TypeId) : At b (b + 1) (Bx b vs) (X.alloc (.cells vs.toArray t)) := by
  subst hb
  exact Bx.new X vs t
theorem Bx.put {X : World} {b : Nat} {vs : List Value} (k : At b (b + 1) (Bx b vs) X) (i : Nat) (u : Value) (hi : i < vs.length) : At b (b + 1) (Bx b (vs.set i u)) (X.setCell ⟨b, i, none⟩ u) := by
  refine ⟨by simpa using k.le, Bx.dep _ _ _ _, fun j v hv => ?_, fun o => by rw [World.frozen?_setCell]; exact k.val.2 o⟩
  by_cases e : j = i
  · subst e
    rw [List.getElem?_set_self hi] at hv
    obtain rfl := Option.some.inj hv
    exact World.cell?_setCell_same _ _ _ (k.val.1 j (vs[j]) (List.getElem?_eq_getElem hi))
  · rw [List.getElem?_set_ne (fun q => e q.symm)] at hv
    rw [World.cell?_setCell_other _ _ _ _ (fun q => e (by have := congrArg Addr.off q; simpa using this.symm))]
    exact k.val.1 j v hv
theorem Wi.trans {lo hi : Nat} {X Y Z : World} (g : Wi lo hi X Y) (k : Wi lo hi Y Z) : Wi lo hi X Z :=
  ⟨Nat.le_trans g.size k.size, fun b o h1 h2 => by rw [k.cell b o (Nat.lt_of_lt_of_le h1 g.size) h2]; exact g.cell b o h1 h2, fun b o h1 h2 => by rw [k.frozen b o (Nat.lt_of_lt_of_le h1 g.size) h2]; exact g.frozen b o h1 h2⟩
theorem Wi.wide {lo hi l h : Nat} {X Y : World} (g : Wi lo hi X Y) (h1 : l ≤ lo) (h2 : hi ≤ h) : Wi l h X Y :=
  ⟨g.size, fun b o hb hd => g.cell b o hb (by omega), fun b o hb hd => g.frozen b o hb (by omega)⟩
end Go.Proofs.YtacninhhkbglaaaGreatDoor
/-
  A box that is written cell by cell.
-/
namespace Go.Proofs.YtacninhhkbglaaaGreatDoor
open Go.ChangeShapes Go.WideShapes Go.ChangeAt Go.RowKit
def putAll (X : World) (b : Nat) : Nat → List Value → World
  | _, [] => X
  | i, v :: vs => putAll (X.setCell ⟨b, i, none⟩ v) b (i + 1) vs
theorem Bx.putFrom {b : Nat} : ∀ (vs : List Value) (X : World) (i : Nat) (zs : List Value), zs.length = i + vs.length → At b (b + 1) (Bx b zs) X → At b (b + 1) (Bx b (zs.take i ++ vs)) (putAll X b i vs)
  | [], X, i, zs, hl, k => by
    rw [List.append_nil, List.take_of_length_le (by simp at hl; omega)]
    exact k
  | v :: vs, X, i, zs, hl, k => by
    have hi : i < zs.length := by rw [hl, List.length_cons]; omega
    have r := Bx.putFrom vs (X.setCell ⟨b, i, none⟩ v) (i + 1) (zs.set i v) (by rw [List.length_set, hl, List.length_cons]; omega) (Bx.put k i v hi)
    have e : (zs.set i v).take (i + 1) ++ vs = zs.take i ++ v :: vs := by
      rw [List.take_succ_eq_append_getElem (by rw [List.length_set]; exact hi), List.getElem_set_self, List.take_set_of_le (Nat.le_refl _)]
      simp
    rw [e] at r
    exact r
theorem Bx.putAll {b : Nat} {X : World} {zs : List Value} (k : At b (b + 1) (Bx b zs) X) (vs : List Value) (hl : zs.length = vs.length) : At b (b + 1) (Bx b vs) (putAll X b 0 vs) := by
  have r := Bx.putFrom vs X 0 zs (by omega) k
  simpa using r
theorem At.putAll {l h b : Nat} {C : Nat → Nat → World → Prop} (hd : b < l ∨ h ≤ b) : ∀ (vs : List Value) (i : Nat) {X : World}, At l h C X → At l h C (putAll X b i vs)
  | [], _, _, k => k
  | v :: vs, i, _, k => At.putAll hd vs (i + 1) (k.set v hd)
theorem below_putAll {base b : Nat} {w : World} (hb : base ≤ b) : ∀ (vs : List Value) (i : Nat) {X : World}, Below base w X → Below base w (putAll X b i vs)
  | [], _, _, k => k
  | v :: vs, i, _, k => below_putAll hb vs (i + 1) (k.setCell hb v)
end Go.Proofs.YtacninhhkbglaaaGreatDoor
/-
  A whole struct that is loaded out of one box and stored into another one, at once.
-/
namespace Go.Proofs.YtacninhhkbglaaaGreatDoor
open Go.ChangeShapes Go.WideShapes Go.ChangeAt Go.RowKit
theorem putAll_eq (b : Nat) : ∀ (vs : List Value) (i : Nat) (X : World), X.setCells b i vs = putAll X b i vs
  | [], _, _ => rfl
  | v :: vs, i, X => by rw [World.setCells, putAll, putAll_eq b vs (i + 1)]
theorem wp_copyOut {P : Program} {id s1 s2 d : Nat} {t ty1 ty2 : TypeId} {pos1 pos2 : String} {af1 af2 : Array Edge} {Q : Exit → Act → World → Prop} {a : Act} {X : World} {b1 b2 : Nat} {vs zs : List Value} {fs : _}
    (ht : P.underlying t = some (.struct fs)) (hz : (P.info? t).map (·.size) = some vs.length)
    (h1 : a.eval (.tmp s1) = .pointer (some ⟨b1, 0, none⟩)) (h2 : ∀ v, (a.put (some d) v).eval (.tmp s2) = .pointer (some ⟨b2, 0, none⟩)) (h3 : ∀ v, (a.put (some d) v).eval (.tmp d) = v)
    (k1 : ∀ i v, vs[i]? = some v → X.cell? ⟨b1, i, none⟩ = some v) (k2 : ∀ i v, zs[i]? = some v → X.cell? ⟨b2, i, none⟩ = some v) (f2 : ∀ o, X.frozen? ⟨b2, o, none⟩ = false) (hl : zs.length = vs.length) (one : vs.all (·.oneCell') = true)
    (K : Q .normal (a.put (some d) (.agg vs.toArray)) (putAll X b2 0 vs)) :
    (Code.region id #[{ dst := some d, op := .load t (.tmp s1), type := ty1, pos := pos1, after := af1, guard := none }, { dst := none, op := .store t (.tmp s2) (.tmp d), type := ty2, pos := pos2, after := af2, guard := none }] false).wp P Q a X := by
  have hadd : ∀ i, (⟨b1, 0, none⟩ : Addr).add i = ⟨b1, i, none⟩ := fun i => by unfold Addr.add; split <;> simp_all
  have hL := run_loadCells_list (P := P) X ⟨b1, 0, none⟩ vs (fun j v hv => by rw [hadd]; exact k1 j v hv)
  have hS := run_storeCells_cells (P := P) b2 0 vs 0 X (fun j hj => by
      obtain ⟨z, hzz⟩ : ∃ z, zs[j]? = some z := ⟨zs[j]'(by omega), List.getElem?_eq_getElem _⟩
      have := k2 j z hzz
      simp only [Nat.zero_add]
      rw [this]; rfl) (fun j _ => f2 _) (fun v hv => List.all_eq_true.1 one v hv)
  rw [Nat.add_zero, putAll_eq] at hS
  obtain ⟨inf, hi, hsz⟩ := Option.map_eq_some_iff.1 hz
  refine wp_region_list ?_
  have hL' : (loadCellsFrom ⟨b1, 0, none⟩ 0 vs.length #[]).run P X = .ok vs.toArray X := hL
  have e1 : ∀ ρ : Operand → Value, ρ (.tmp s1) = .pointer (some ⟨b1, 0, none⟩) → (execOp ρ { dst := some d, op := .load t (.tmp s1), type := ty1, pos := pos1, after := af1, guard := none }).run P X = .ok (.value (.agg vs.toArray)) X := fun ρ h => by
    simp [execOp, Instr.loadAt, loadVar, isAgg, sizeOf, typeInfo, underlying, h, ht, hi, hsz, hL', go_sem]
  have e2 : ∀ ρ : Operand → Value, ρ (.tmp s2) = .pointer (some ⟨b2, 0, none⟩) → ρ (.tmp d) = .agg vs.toArray → (execOp ρ { dst := none, op := .store t (.tmp s2) (.tmp d), type := ty2, pos := pos2, after := af2, guard := none }).run P X = .ok .skip (putAll X b2 0 vs) := fun ρ h h' => by
    simp [execOp, Instr.storeAt, storeVar, sizeOf, typeInfo, h, h', hi, hsz, hS, Value.cells, go_sem]
  have w1 := e1 a.eval h1
  have w2 := e2 (a.put (some d) (.agg vs.toArray)).eval (h2 _) (h3 _)
  clear hL hL' hS e1 e2 h1 h2 h3
  unfold wpList
  rw [if_pos (by simp [Region.wanted])]
  refine .inl ?_
  unfold Oper.wp
  rw [w1]
  show wpList _ _ _ _ _ _
  unfold wpList
  rw [if_pos (by simp [Region.wanted])]
  refine .inl ?_
  unfold Oper.wp
  rw [w2]
  show wpList _ _ _ _ _ _
  unfold wpList
  exact K
theorem wpList_loadAll {P : Program} {ops : Array Oper} {rest : List Oper} {s d b : Nat} {t ty : TypeId} {pos : String} {af : Array Edge} {Q : Exit → Act → World → Prop} {a : Act} {X : World} {vs : List Value} {fs : _}
    (ht : P.underlying t = some (.struct fs)) (hz : (P.info? t).map (·.size) = some vs.length)
    (h1 : a.eval (.tmp s) = .pointer (some ⟨b, 0, none⟩))
    (k1 : ∀ i v, vs[i]? = some v → X.cell? ⟨b, i, none⟩ = some v)
    (K : wpList P ops Q rest (a.put (some d) (.agg vs.toArray)) X) :
    wpList P ops Q ({ dst := some d, op := .load t (.tmp s), type := ty, pos := pos, after := af, guard := none } :: rest) a X := by
  have hadd : ∀ i, (⟨b, 0, none⟩ : Addr).add i = ⟨b, i, none⟩ := fun i => by unfold Addr.add; split <;> simp_all
  have hL := run_loadCells_list (P := P) X ⟨b, 0, none⟩ vs (fun j v hv => by rw [hadd]; exact k1 j v hv)
  obtain ⟨inf, hi, hsz⟩ := Option.map_eq_some_iff.1 hz
  have hL' : (loadCellsFrom ⟨b, 0, none⟩ 0 vs.length #[]).run P X = .ok vs.toArray X := hL
  have e1 : ∀ ρ : Operand → Value, ρ (.tmp s) = .pointer (some ⟨b, 0, none⟩) → (execOp ρ { dst := some d, op := .load t (.tmp s), type := ty, pos := pos, after := af, guard := none }).run P X = .ok (.value (.agg vs.toArray)) X := fun ρ h => by
    simp [execOp, Instr.loadAt, loadVar, isAgg, sizeOf, typeInfo, underlying, h, ht, hi, hsz, hL', go_sem]
  have w1 := e1 a.eval h1
  clear hL hL' e1 h1
  unfold wpList
  rw [if_pos (by simp [Region.wanted])]
  refine .inl ?_
  unfold Oper.wp
  rw [w1]
  exact K
theorem wpList_storeNew {P : Program} {ops : Array Oper} {rest : List Oper} {s d : Nat} {t ty : TypeId} {pos : String} {af : Array Edge} {Q : Exit → Act → World → Prop} {a : Act} {X : World} {c c' : Array Value}
    (hz : (P.info? t).map (·.size) = some c'.size) (hl : c.size = c'.size) (one : c'.all (·.oneCell') = true)
    (h1 : a.eval (.tmp s) = .pointer (some ⟨X.heap.size, 0, none⟩)) (h2 : a.eval (.tmp d) = .agg c')
    (K : wpList P ops Q rest (a.put none undef) (X.alloc (.cells c' t))) :
    wpList P ops Q ({ dst := none, op := .store t (.tmp s) (.tmp d), type := ty, pos := pos, after := af, guard := none } :: rest) a (X.alloc (.cells c t)) := by
  have hS := run_storeCells_new (P := P) X t c c' hz hl one
  obtain ⟨inf, hi, hsz⟩ := Option.map_eq_some_iff.1 hz
  have e2 : ∀ ρ : Operand → Value, ρ (.tmp s) = .pointer (some ⟨X.heap.size, 0, none⟩) → ρ (.tmp d) = .agg c' → (execOp ρ { dst := none, op := .store t (.tmp s) (.tmp d), type := ty, pos := pos, after := af, guard := none }).run P (X.alloc (.cells c t)) = .ok .skip (X.alloc (.cells c' t)) := fun ρ h h' => by
    have hS' : (storeCells ⟨X.heap.size, 0, none⟩ c'.toList 0).run P (X.alloc (.cells c t)) = .ok () (X.alloc (.cells c' t)) := hS
    simp [execOp, Instr.storeAt, storeVar, sizeOf, typeInfo, h, h', hi, hsz, hS', Value.cells, go_sem]
  have w2 := e2 a.eval h1 h2
  clear hS e2 h1 h2
  unfold wpList
  rw [if_pos (by simp [Region.wanted])]
  refine .inl ?_
  unfold Oper.wp
  rw [w2]
  exact K
theorem operwp_storeNew {P : Program} {next : Act → World → Prop} {s d : Nat} {t ty : TypeId} {pos : String} {af : Array Edge} {Q : Exit → Act → World → Prop} {a : Act} {X : World} {c c' : Array Value}
    (hz : (P.info? t).map (·.size) = some c'.size) (hl : c.size = c'.size) (one : c'.all (·.oneCell') = true)
    (h1 : a.eval (.tmp s) = .pointer (some ⟨X.heap.size, 0, none⟩)) (h2 : a.eval (.tmp d) = .agg c')
    (K : next (a.put none undef) (X.alloc (.cells c' t))) :
    Oper.wp P { dst := none, op := .store t (.tmp s) (.tmp d), type := ty, pos := pos, after := af, guard := none } a (X.alloc (.cells c t)) next Q := by
  have hS := run_storeCells_new (P := P) X t c c' hz hl one
  obtain ⟨inf, hi, hsz⟩ := Option.map_eq_some_iff.1 hz
  have e2 : ∀ ρ : Operand → Value, ρ (.tmp s) = .pointer (some ⟨X.heap.size, 0, none⟩) → ρ (.tmp d) = .agg c' → (execOp ρ { dst := none, op := .store t (.tmp s) (.tmp d), type := ty, pos := pos, after := af, guard := none }).run P (X.alloc (.cells c t)) = .ok .skip (X.alloc (.cells c' t)) := fun ρ h h' => by
    have hS' : (storeCells ⟨X.heap.size, 0, none⟩ c'.toList 0).run P (X.alloc (.cells c t)) = .ok () (X.alloc (.cells c' t)) := hS
    simp [execOp, Instr.storeAt, storeVar, sizeOf, typeInfo, h, h', hi, hsz, hS', Value.cells, go_sem]
  have w2 := e2 a.eval h1 h2
  clear hS e2 h1 h2
  unfold Oper.wp
  rw [w2]
  exact K
theorem operwp_loadAll {P : Program} {next : Act → World → Prop} {s d b : Nat} {t ty : TypeId} {pos : String} {af : Array Edge} {Q : Exit → Act → World → Prop} {a : Act} {X : World} {vs : List Value} {fs : _}
    (ht : P.underlying t = some (.struct fs)) (hz : (P.info? t).map (·.size) = some vs.length)
    (h1 : a.eval (.tmp s) = .pointer (some ⟨b, 0, none⟩))
    (k1 : ∀ i v, vs[i]? = some v → X.cell? ⟨b, i, none⟩ = some v)
    (K : next (a.put (some d) (.agg vs.toArray)) X) :
    Oper.wp P { dst := some d, op := .load t (.tmp s), type := ty, pos := pos, after := af, guard := none } a X next Q := by
  have hadd : ∀ i, (⟨b, 0, none⟩ : Addr).add i = ⟨b, i, none⟩ := fun i => by unfold Addr.add; split <;> simp_all
  have hL := run_loadCells_list (P := P) X ⟨b, 0, none⟩ vs (fun j v hv => by rw [hadd]; exact k1 j v hv)
  obtain ⟨inf, hi, hsz⟩ := Option.map_eq_some_iff.1 hz
  have hL' : (loadCellsFrom ⟨b, 0, none⟩ 0 vs.length #[]).run P X = .ok vs.toArray X := hL
  have e1 : ∀ ρ : Operand → Value, ρ (.tmp s) = .pointer (some ⟨b, 0, none⟩) → (execOp ρ { dst := some d, op := .load t (.tmp s), type := ty, pos := pos, after := af, guard := none }).run P X = .ok (.value (.agg vs.toArray)) X := fun ρ h => by
    simp [execOp, Instr.loadAt, loadVar, isAgg, sizeOf, typeInfo, underlying, h, ht, hi, hsz, hL', go_sem]
  have w1 := e1 a.eval h1
  clear hL hL' e1 h1
  unfold Oper.wp
  rw [w1]
  exact K
theorem loads_of {P : Program} {X : World} {b n : Nat} {vs : List Value} (k1 : ∀ i v, vs[i]? = some v → X.cell? ⟨b, i, none⟩ = some v) (hl : vs.length = n) :
    (loadCellsFrom ⟨b, 0, none⟩ 0 n #[]).run P X = .ok vs.toArray X := by
  have hadd : ∀ i, (⟨b, 0, none⟩ : Addr).add i = ⟨b, i, none⟩ := fun i => by unfold Addr.add; split <;> simp_all
  have hL := run_loadCells_list (P := P) X ⟨b, 0, none⟩ vs (fun j v hv => by rw [hadd]; exact k1 j v hv)
  rw [hl] at hL
  exact hL
theorem range_of {X : World} {b : Nat} {vs : List Value} (k1 : ∀ i v, vs[i]? = some v → X.cell? ⟨b, i, none⟩ = some v) : X.rangeAt b 0 vs := fun j v h => by
  rw [Nat.zero_add]
  exact k1 j v h
theorem loads_sub {P : Program} {X : World} {b off n : Nat} {vs us : List Value} (k1 : ∀ i v, vs[i]? = some v → X.cell? ⟨b, i, none⟩ = some v) (hu : (vs.drop off).take n = us) (hl : us.length = n) :
    (loadCellsFrom ⟨b, off, none⟩ 0 n #[]).run P X = .ok us.toArray X := by
  have hadd : ∀ i, (⟨b, off, none⟩ : Addr).add i = ⟨b, off + i, none⟩ := fun i => by unfold Addr.add; split <;> simp_all
  have hL := run_loadCells_list (P := P) X ⟨b, off, none⟩ us (fun j v hv => by
    rw [hadd]
    refine k1 (off + j) v ?_
    rw [← hu, List.getElem?_take] at hv
    split at hv
    · rw [← List.getElem?_drop]; exact hv
    · cases hv)
  rw [hl] at hL
  exact hL
theorem wpList_storeBox {P : Program} {ops : Array Oper} {rest : List Oper} {s d : Nat} {t ty : TypeId} {pos : String} {af : Array Edge} {Q : Exit → Act → World → Prop} {a : Act} {X : World} {b : Nat} {zs : List Value} {c' : Array Value}
    (hz : (P.info? t).map (·.size) = some c'.size) (hl : zs.length = c'.size) (one : c'.toList.all (·.oneCell') = true)
    (h1 : a.eval (.tmp s) = .pointer (some ⟨b, 0, none⟩)) (h2 : a.eval (.tmp d) = .agg c')
    (k2 : ∀ i v, zs[i]? = some v → X.cell? ⟨b, i, none⟩ = some v) (f2 : ∀ o, X.frozen? ⟨b, o, none⟩ = false)
    (K : wpList P ops Q rest (a.put none undef) (putAll X b 0 c'.toList)) :
    wpList P ops Q ({ dst := none, op := .store t (.tmp s) (.tmp d), type := ty, pos := pos, after := af, guard := none } :: rest) a X := by
  have hS := run_storeCells_cells (P := P) b 0 c'.toList 0 X (fun j hj => by
      obtain ⟨z, hzz⟩ : ∃ z, zs[j]? = some z := ⟨zs[j]'(by rw [hl]; simpa using hj), List.getElem?_eq_getElem _⟩
      have := k2 j z hzz
      simp only [Nat.zero_add]
      rw [this]; rfl) (fun j _ => f2 _) (fun v hv => List.all_eq_true.1 one v hv)
  rw [Nat.add_zero, putAll_eq] at hS
  obtain ⟨inf, hi, hsz⟩ := Option.map_eq_some_iff.1 hz
  have e2 : ∀ ρ : Operand → Value, ρ (.tmp s) = .pointer (some ⟨b, 0, none⟩) → ρ (.tmp d) = .agg c' → (execOp ρ { dst := none, op := .store t (.tmp s) (.tmp d), type := ty, pos := pos, after := af, guard := none }).run P X = .ok .skip (putAll X b 0 c'.toList) := fun ρ h h' => by
    simp [execOp, Instr.storeAt, storeVar, sizeOf, typeInfo, h, h', hi, hsz, hS, Value.cells, go_sem]
  have w2 := e2 a.eval h1 h2
  clear hS e2 h1 h2
  unfold wpList
  rw [if_pos (by simp [Region.wanted])]
  refine .inl ?_
  unfold Oper.wp
  rw [w2]
  exact K
theorem wpList_loadSub {P : Program} {ops : Array Oper} {rest : List Oper} {s d b off : Nat} {t ty : TypeId} {pos : String} {af : Array Edge} {Q : Exit → Act → World → Prop} {a : Act} {X : World} {vs us : List Value} {fs : _}
    (ht : P.underlying t = some (.struct fs)) (hz : (P.info? t).map (·.size) = some us.length)
    (h1 : a.eval (.tmp s) = .pointer (some ⟨b, off, none⟩))
    (k1 : ∀ i v, vs[i]? = some v → X.cell? ⟨b, i, none⟩ = some v)
    (hu : (vs.drop off).take us.length = us)
    (K : wpList P ops Q rest (a.put (some d) (.agg us.toArray)) X) :
    wpList P ops Q ({ dst := some d, op := .load t (.tmp s), type := ty, pos := pos, after := af, guard := none } :: rest) a X := by
  have hL' := loads_sub (P := P) k1 hu rfl
  obtain ⟨inf, hi, hsz⟩ := Option.map_eq_some_iff.1 hz
  have e1 : ∀ ρ : Operand → Value, ρ (.tmp s) = .pointer (some ⟨b, off, none⟩) → (execOp ρ { dst := some d, op := .load t (.tmp s), type := ty, pos := pos, after := af, guard := none }).run P X = .ok (.value (.agg us.toArray)) X := fun ρ h => by
    simp [execOp, Instr.loadAt, loadVar, isAgg, sizeOf, typeInfo, underlying, h, ht, hi, hsz, hL', go_sem]
  have w1 := e1 a.eval h1
  clear hL' e1 h1
  unfold wpList
  rw [if_pos (by simp [Region.wanted])]
  refine .inl ?_
  unfold Oper.wp
  rw [w1]
  exact K
theorem wpList_loadAllG {P : Program} {ops : Array Oper} {rest : List Oper} {s d b : Nat} {t ty : TypeId} {pos : String} {af : Array Edge} {gd : Option (Nat × Bool)} {Q : Exit → Act → World → Prop} {a : Act} {X : World} {vs : List Value} {fs : _}
    (hw : Region.wanted { dst := some d, op := .load t (.tmp s), type := ty, pos := pos, after := af, guard := gd } (yielded ops a.tmps) = true) (ht : P.underlying t = some (.struct fs)) (hz : (P.info? t).map (·.size) = some vs.length)
    (h1 : a.eval (.tmp s) = .pointer (some ⟨b, 0, none⟩))
    (k1 : ∀ i v, vs[i]? = some v → X.cell? ⟨b, i, none⟩ = some v)
    (K : wpList P ops Q rest (a.put (some d) (.agg vs.toArray)) X) :
    wpList P ops Q ({ dst := some d, op := .load t (.tmp s), type := ty, pos := pos, after := af, guard := gd } :: rest) a X := by
  have hadd : ∀ i, (⟨b, 0, none⟩ : Addr).add i = ⟨b, i, none⟩ := fun i => by unfold Addr.add; split <;> simp_all
  have hL := run_loadCells_list (P := P) X ⟨b, 0, none⟩ vs (fun j v hv => by rw [hadd]; exact k1 j v hv)
  obtain ⟨inf, hi, hsz⟩ := Option.map_eq_some_iff.1 hz
  have hL' : (loadCellsFrom ⟨b, 0, none⟩ 0 vs.length #[]).run P X = .ok vs.toArray X := hL
  have e1 : ∀ ρ : Operand → Value, ρ (.tmp s) = .pointer (some ⟨b, 0, none⟩) → (execOp ρ { dst := some d, op := .load t (.tmp s), type := ty, pos := pos, after := af, guard := gd }).run P X = .ok (.value (.agg vs.toArray)) X := fun ρ h => by
    simp [execOp, Instr.loadAt, loadVar, isAgg, sizeOf, typeInfo, underlying, h, ht, hi, hsz, hL', go_sem]
  have w1 := e1 a.eval h1
  clear hL hL' e1 h1
  unfold wpList
  rw [if_pos hw]
  refine .inl ?_
  unfold Oper.wp
  rw [w1]
  exact K
end Go.Proofs.YtacninhhkbglaaaGreatDoor
/-
  Flights and answers that hold one, loaded and stored at once.
-/
namespace Go.Proofs.YtacninhhkbglaaaGreatDoor
open Go.ChangeShapes Go.WideShapes Go.ChangeAt Go.RowKit
theorem flI_size : (Tryz.prog.info? 86).map (·.size) = some 11 := by kernel_rfl
theorem flI_load {ops : Array Oper} {rest : List Oper} {s d b : Nat} {ty : TypeId} {pos : String} {af : Array Edge} {Q : Exit → Act → World → Prop} {a : Act} {X : World} {vs : List Value} (hl : vs.length = 11)
    (h1 : a.eval (.tmp s) = .pointer (some ⟨b, 0, none⟩)) (k1 : ∀ i v, vs[i]? = some v → X.cell? ⟨b, i, none⟩ = some v)
    (K : wpList Tryz.prog ops Q rest (a.put (some d) (.agg vs.toArray)) X) :
    wpList Tryz.prog ops Q ({ dst := some d, op := .load 86 (.tmp s), type := ty, pos := pos, after := af, guard := none } :: rest) a X :=
  wpList_loadAll Tryz.underlying86 (by rw [hl]; exact flI_size) h1 k1 K
theorem flI_loadW {next : Act → World → Prop} {s d b : Nat} {ty : TypeId} {pos : String} {af : Array Edge} {Q : Exit → Act → World → Prop} {a : Act} {X : World} {vs : List Value} (hl : vs.length = 11)
    (h1 : a.eval (.tmp s) = .pointer (some ⟨b, 0, none⟩)) (k1 : ∀ i v, vs[i]? = some v → X.cell? ⟨b, i, none⟩ = some v)
    (K : next (a.put (some d) (.agg vs.toArray)) X) :
    Oper.wp Tryz.prog { dst := some d, op := .load 86 (.tmp s), type := ty, pos := pos, after := af, guard := none } a X next Q :=
  operwp_loadAll Tryz.underlying86 (by rw [hl]; exact flI_size) h1 k1 K
theorem flI_loadG {ops : Array Oper} {rest : List Oper} {s d b : Nat} {ty : TypeId} {pos : String} {af : Array Edge} {gd : Option (Nat × Bool)} {Q : Exit → Act → World → Prop} {a : Act} {X : World} {vs : List Value} (hl : vs.length = 11)
    (h1 : a.eval (.tmp s) = .pointer (some ⟨b, 0, none⟩)) (hw : Region.wanted { dst := some d, op := .load 86 (.tmp s), type := ty, pos := pos, after := af, guard := gd } (yielded ops a.tmps) = true) (k1 : ∀ i v, vs[i]? = some v → X.cell? ⟨b, i, none⟩ = some v)
    (K : wpList Tryz.prog ops Q rest (a.put (some d) (.agg vs.toArray)) X) :
    wpList Tryz.prog ops Q ({ dst := some d, op := .load 86 (.tmp s), type := ty, pos := pos, after := af, guard := gd } :: rest) a X :=
  wpList_loadAllG hw Tryz.underlying86 (by rw [hl]; exact flI_size) h1 k1 K
theorem flI_loadAt {ops : Array Oper} {rest : List Oper} {s d b off : Nat} {ty : TypeId} {pos : String} {af : Array Edge} {Q : Exit → Act → World → Prop} {a : Act} {X : World} {vs us : List Value} (hl : us.length = 11)
    (h1 : a.eval (.tmp s) = .pointer (some ⟨b, off, none⟩)) (hu : (vs.drop off).take us.length = us) (k1 : ∀ i v, vs[i]? = some v → X.cell? ⟨b, i, none⟩ = some v)
    (K : wpList Tryz.prog ops Q rest (a.put (some d) (.agg us.toArray)) X) :
    wpList Tryz.prog ops Q ({ dst := some d, op := .load 86 (.tmp s), type := ty, pos := pos, after := af, guard := none } :: rest) a X :=
  wpList_loadSub Tryz.underlying86 (by rw [hl]; exact flI_size) h1 k1 hu K
theorem flI_store {next : Act → World → Prop} {s d : Nat} {ty : TypeId} {pos : String} {af : Array Edge} {Q : Exit → Act → World → Prop} {a : Act} {X : World} {c c' : Array Value} (hl : c'.size = 11) (hl2 : c.size = 11) (one : c'.toList.all (·.oneCell') = true)
    (h1 : a.eval (.tmp s) = .pointer (some ⟨X.heap.size, 0, none⟩)) (h2 : a.eval (.tmp d) = .agg c')
    (K : next (a.put none undef) (X.alloc (.cells c' 86))) :
    Oper.wp Tryz.prog { dst := none, op := .store 86 (.tmp s) (.tmp d), type := ty, pos := pos, after := af, guard := none } a (X.alloc (.cells c 86)) next Q :=
  operwp_storeNew (by rw [hl]; exact flI_size) (by rw [hl, hl2]) (by rw [← Array.all_toList]; exact one) h1 h2 K
theorem flI_put {ops : Array Oper} {rest : List Oper} {s d : Nat} {ty : TypeId} {pos : String} {af : Array Edge} {Q : Exit → Act → World → Prop} {a : Act} {X : World} {b : Nat} {zs vs : List Value} (hl : vs.length = 11) (hl2 : zs.length = 11) (one : vs.all (·.oneCell') = true)
    (h1 : a.eval (.tmp s) = .pointer (some ⟨b, 0, none⟩)) (h2 : a.eval (.tmp d) = .agg vs.toArray)
    (k2 : ∀ i v, zs[i]? = some v → X.cell? ⟨b, i, none⟩ = some v) (f2 : ∀ o, X.frozen? ⟨b, o, none⟩ = false)
    (K : wpList Tryz.prog ops Q rest (a.put none undef) (putAll X b 0 vs)) :
    wpList Tryz.prog ops Q ({ dst := none, op := .store 86 (.tmp s) (.tmp d), type := ty, pos := pos, after := af, guard := none } :: rest) a X :=
  wpList_storeBox (c' := vs.toArray) (by rw [List.size_toArray, hl]; exact flI_size) (by rw [List.size_toArray, hl, hl2]) one h1 h2 k2 f2 K
theorem flL_size : (Tryz.prog.info? 77).map (·.size) = some 11 := by kernel_rfl
theorem flL_load {ops : Array Oper} {rest : List Oper} {s d b : Nat} {ty : TypeId} {pos : String} {af : Array Edge} {Q : Exit → Act → World → Prop} {a : Act} {X : World} {vs : List Value} (hl : vs.length = 11)
    (h1 : a.eval (.tmp s) = .pointer (some ⟨b, 0, none⟩)) (k1 : ∀ i v, vs[i]? = some v → X.cell? ⟨b, i, none⟩ = some v)
    (K : wpList Tryz.prog ops Q rest (a.put (some d) (.agg vs.toArray)) X) :
    wpList Tryz.prog ops Q ({ dst := some d, op := .load 77 (.tmp s), type := ty, pos := pos, after := af, guard := none } :: rest) a X :=
  wpList_loadAll Tryz.underlying77 (by rw [hl]; exact flL_size) h1 k1 K
theorem flL_loadW {next : Act → World → Prop} {s d b : Nat} {ty : TypeId} {pos : String} {af : Array Edge} {Q : Exit → Act → World → Prop} {a : Act} {X : World} {vs : List Value} (hl : vs.length = 11)
    (h1 : a.eval (.tmp s) = .pointer (some ⟨b, 0, none⟩)) (k1 : ∀ i v, vs[i]? = some v → X.cell? ⟨b, i, none⟩ = some v)
    (K : next (a.put (some d) (.agg vs.toArray)) X) :
    Oper.wp Tryz.prog { dst := some d, op := .load 77 (.tmp s), type := ty, pos := pos, after := af, guard := none } a X next Q :=
  operwp_loadAll Tryz.underlying77 (by rw [hl]; exact flL_size) h1 k1 K
theorem flL_loadG {ops : Array Oper} {rest : List Oper} {s d b : Nat} {ty : TypeId} {pos : String} {af : Array Edge} {gd : Option (Nat × Bool)} {Q : Exit → Act → World → Prop} {a : Act} {X : World} {vs : List Value} (hl : vs.length = 11)
    (h1 : a.eval (.tmp s) = .pointer (some ⟨b, 0, none⟩)) (hw : Region.wanted { dst := some d, op := .load 77 (.tmp s), type := ty, pos := pos, after := af, guard := gd } (yielded ops a.tmps) = true) (k1 : ∀ i v, vs[i]? = some v → X.cell? ⟨b, i, none⟩ = some v)
    (K : wpList Tryz.prog ops Q rest (a.put (some d) (.agg vs.toArray)) X) :
    wpList Tryz.prog ops Q ({ dst := some d, op := .load 77 (.tmp s), type := ty, pos := pos, after := af, guard := gd } :: rest) a X :=
  wpList_loadAllG hw Tryz.underlying77 (by rw [hl]; exact flL_size) h1 k1 K
theorem flL_loadAt {ops : Array Oper} {rest : List Oper} {s d b off : Nat} {ty : TypeId} {pos : String} {af : Array Edge} {Q : Exit → Act → World → Prop} {a : Act} {X : World} {vs us : List Value} (hl : us.length = 11)
    (h1 : a.eval (.tmp s) = .pointer (some ⟨b, off, none⟩)) (hu : (vs.drop off).take us.length = us) (k1 : ∀ i v, vs[i]? = some v → X.cell? ⟨b, i, none⟩ = some v)
    (K : wpList Tryz.prog ops Q rest (a.put (some d) (.agg us.toArray)) X) :
    wpList Tryz.prog ops Q ({ dst := some d, op := .load 77 (.tmp s), type := ty, pos := pos, after := af, guard := none } :: rest) a X :=
  wpList_loadSub Tryz.underlying77 (by rw [hl]; exact flL_size) h1 k1 hu K
theorem flR_size : (Tryz.prog.info? 88).map (·.size) = some 12 := by kernel_rfl
theorem flR_load {ops : Array Oper} {rest : List Oper} {s d b : Nat} {ty : TypeId} {pos : String} {af : Array Edge} {Q : Exit → Act → World → Prop} {a : Act} {X : World} {vs : List Value} (hl : vs.length = 12)
    (h1 : a.eval (.tmp s) = .pointer (some ⟨b, 0, none⟩)) (k1 : ∀ i v, vs[i]? = some v → X.cell? ⟨b, i, none⟩ = some v)
    (K : wpList Tryz.prog ops Q rest (a.put (some d) (.agg vs.toArray)) X) :
    wpList Tryz.prog ops Q ({ dst := some d, op := .load 88 (.tmp s), type := ty, pos := pos, after := af, guard := none } :: rest) a X :=
  wpList_loadAll Tryz.underlying88 (by rw [hl]; exact flR_size) h1 k1 K
theorem flR_loadW {next : Act → World → Prop} {s d b : Nat} {ty : TypeId} {pos : String} {af : Array Edge} {Q : Exit → Act → World → Prop} {a : Act} {X : World} {vs : List Value} (hl : vs.length = 12)
    (h1 : a.eval (.tmp s) = .pointer (some ⟨b, 0, none⟩)) (k1 : ∀ i v, vs[i]? = some v → X.cell? ⟨b, i, none⟩ = some v)
    (K : next (a.put (some d) (.agg vs.toArray)) X) :
    Oper.wp Tryz.prog { dst := some d, op := .load 88 (.tmp s), type := ty, pos := pos, after := af, guard := none } a X next Q :=
  operwp_loadAll Tryz.underlying88 (by rw [hl]; exact flR_size) h1 k1 K
theorem flR_loadG {ops : Array Oper} {rest : List Oper} {s d b : Nat} {ty : TypeId} {pos : String} {af : Array Edge} {gd : Option (Nat × Bool)} {Q : Exit → Act → World → Prop} {a : Act} {X : World} {vs : List Value} (hl : vs.length = 12)
    (h1 : a.eval (.tmp s) = .pointer (some ⟨b, 0, none⟩)) (hw : Region.wanted { dst := some d, op := .load 88 (.tmp s), type := ty, pos := pos, after := af, guard := gd } (yielded ops a.tmps) = true) (k1 : ∀ i v, vs[i]? = some v → X.cell? ⟨b, i, none⟩ = some v)
    (K : wpList Tryz.prog ops Q rest (a.put (some d) (.agg vs.toArray)) X) :
    wpList Tryz.prog ops Q ({ dst := some d, op := .load 88 (.tmp s), type := ty, pos := pos, after := af, guard := gd } :: rest) a X :=
  wpList_loadAllG hw Tryz.underlying88 (by rw [hl]; exact flR_size) h1 k1 K
theorem flR_loadAt {ops : Array Oper} {rest : List Oper} {s d b off : Nat} {ty : TypeId} {pos : String} {af : Array Edge} {Q : Exit → Act → World → Prop} {a : Act} {X : World} {vs us : List Value} (hl : us.length = 12)
    (h1 : a.eval (.tmp s) = .pointer (some ⟨b, off, none⟩)) (hu : (vs.drop off).take us.length = us) (k1 : ∀ i v, vs[i]? = some v → X.cell? ⟨b, i, none⟩ = some v)
    (K : wpList Tryz.prog ops Q rest (a.put (some d) (.agg us.toArray)) X) :
    wpList Tryz.prog ops Q ({ dst := some d, op := .load 88 (.tmp s), type := ty, pos := pos, after := af, guard := none } :: rest) a X :=
  wpList_loadSub Tryz.underlying88 (by rw [hl]; exact flR_size) h1 k1 hu K
theorem flR_store {next : Act → World → Prop} {s d : Nat} {ty : TypeId} {pos : String} {af : Array Edge} {Q : Exit → Act → World → Prop} {a : Act} {X : World} {c c' : Array Value} (hl : c'.size = 12) (hl2 : c.size = 12) (one : c'.toList.all (·.oneCell') = true)
    (h1 : a.eval (.tmp s) = .pointer (some ⟨X.heap.size, 0, none⟩)) (h2 : a.eval (.tmp d) = .agg c')
    (K : next (a.put none undef) (X.alloc (.cells c' 88))) :
    Oper.wp Tryz.prog { dst := none, op := .store 88 (.tmp s) (.tmp d), type := ty, pos := pos, after := af, guard := none } a (X.alloc (.cells c 88)) next Q :=
  operwp_storeNew (by rw [hl]; exact flR_size) (by rw [hl, hl2]) (by rw [← Array.all_toList]; exact one) h1 h2 K
theorem flR_put {ops : Array Oper} {rest : List Oper} {s d : Nat} {ty : TypeId} {pos : String} {af : Array Edge} {Q : Exit → Act → World → Prop} {a : Act} {X : World} {b : Nat} {zs vs : List Value} (hl : vs.length = 12) (hl2 : zs.length = 12) (one : vs.all (·.oneCell') = true)
    (h1 : a.eval (.tmp s) = .pointer (some ⟨b, 0, none⟩)) (h2 : a.eval (.tmp d) = .agg vs.toArray)
    (k2 : ∀ i v, zs[i]? = some v → X.cell? ⟨b, i, none⟩ = some v) (f2 : ∀ o, X.frozen? ⟨b, o, none⟩ = false)
    (K : wpList Tryz.prog ops Q rest (a.put none undef) (putAll X b 0 vs)) :
    wpList Tryz.prog ops Q ({ dst := none, op := .store 88 (.tmp s) (.tmp d), type := ty, pos := pos, after := af, guard := none } :: rest) a X :=
  wpList_storeBox (c' := vs.toArray) (by rw [List.size_toArray, hl]; exact flR_size) (by rw [List.size_toArray, hl, hl2]) one h1 h2 k2 f2 K
end Go.Proofs.YtacninhhkbglaaaGreatDoor
/-
  A region that draws its order, whose last operation waits for all others: what is held of the world is held behind each operation but that last one.
-/
namespace Go.Proofs.YtacninhhkbglaaaGreatDoor
open Go Go.ChangeShapes Go.WideShapes Go.ChangeAt Go.RowKit
section
variable {P : Program} {ops : Array Oper} {Q : Exit → Act → World → Prop} {S : World → Prop} {m : Nat}
/-- Whatever may come up; behind it S is shown, but where it was operation m. -/
def butLast (P : Program) (ops : Array Oper) (Q : Exit → Act → World → Prop) (S : World → Prop) (m : Nat) : Nat → Array Bool → Act → World → Prop
  | 0, done, a, w => Region.ready .any ops done = [] ∧ Q .normal a w
  | n + 1, done, a, w => (Region.ready .any ops done = [] → Q .normal a w) ∧
      ∀ i ∈ Region.ready .any ops done, wpOp P ops Q i (fun a' w' => (i = m ∨ S w') ∧ butLast P ops Q S m n (done.setIfInBounds i true) a' w') a w
theorem butLast_any : ∀ (n : Nat) (done : Array Bool) (a : Act) (w : World), butLast P ops Q S m n done a w → wpAny P .any ops Q n done a w := by
  intro n
  induction n with
  | zero => intro done a w h; exact h
  | succ n ih => intro done a w h; exact ⟨h.1, fun i hi => wpOp_mono (fun a' w' k => ih _ a' w' k.2) (h.2 i hi)⟩
theorem ready_not_done {done : Array Bool} {i : Nat} (h : i ∈ Region.ready .any ops done) (k : done.getD i false = true) : False := by
  have q := (mem_ready.1 h).1
  rcases Nat.lt_or_ge i done.size with z | z
  · simp [z] at q k
    rw [q] at k
    cases k
  · simp [Array.getElem?_eq_none z] at k
/-- While operation i has not come up, one that waits for it cannot. -/
theorem waits_not {done : Array Bool} {i j : Nat} (hi : i ∈ Region.ready .any ops done) (hj : j ∈ Region.ready .any ops done) (hw : Region.waitsFor .any ops j i = true) : False := by
  obtain ⟨oj, hoj, e, he, hb, rfl⟩ := Region.waitsFor_spec hw
  obtain ⟨_, oj', hoj', hall⟩ := mem_ready.1 hj
  rw [hoj] at hoj'
  cases hoj'
  exact ready_not_done hi (hall e he hb)
/-- One that yields in every world that meets S may be taken first, if the last one waits for it. -/
theorem butLast_first {i : Nat} {oi : Oper} {v : Value} (hi : ops[i]? = some oi) (hsel : ∀ (j : Nat) (o : Oper) cs b, ops[j]? = some o → o.op ≠ .select cs b)
    (hw : Region.waitsFor .any ops m i = true) (hQ : ∀ c a w, Q (.panic c) (a.put oi.dst v) w → Q (.panic c) a w) :
    ∀ (n : Nat) (done : Array Bool) (a : Act) (w : World), (∀ j oj, ops[j]? = some oj → j ≠ i → done.getD j true = false → (∀ e ∈ oj.after, Region.binds .any e = true → e.on ≠ i) → oi.apart ops oj = true) →
      i ∈ Region.ready .any ops done → YieldsIf P ops S oi v a → S w → butLast P ops Q S m n (done.setIfInBounds i true) (a.put oi.dst v) w → butLast P ops Q S m (n + 1) done a w := by
  intro n
  induction n with
  | zero =>
    intro done a w _ hr hy hS H
    refine ⟨fun z => (by rw [z] at hr; cases hr), fun j hj => ?_⟩
    by_cases e : j = i
    · rw [e]; exact hy.wpOp hi hS ⟨.inr hS, H⟩
    · have k := ready_mono hj e
      rw [H.1] at k
      cases k
  | succ n ih =>
    intro done a w hap hr hy hS H
    refine ⟨fun z => (by rw [z] at hr; cases hr), fun j hj => ?_⟩
    by_cases e : j = i
    · rw [e]; exact hy.wpOp hi hS ⟨.inr hS, H⟩
    · have hjm : j ≠ m := fun q => waits_not hr hj (by rw [q]; exact hw)
      obtain ⟨hun, oj, hoj, hall⟩ := mem_ready.1 hj
      have hno : ∀ x ∈ oj.after, Region.binds .any x = true → x.on ≠ i := fun x hx hb q => ready_not_done hr (by have := hall x hx hb; rwa [q] at this)
      have step := wpOp_putIf hoj (hap j oj hoj e hun hno) (fun cs b => hsel i oi cs b hi) (fun cs b => hsel j oj cs b hoj) hQ hy (H.2 j (ready_mono hj e))
      refine wpOp_mono (fun a' w' k => ?_) step
      have hS' : S w' := k.2.1.resolve_left hjm
      refine ⟨.inr hS', ih (done.setIfInBounds j true) a' w' (fun c oc hc hci hcu hcn => hap c oc hc hci ?_ hcn) (ready_mono hr (Ne.symm e)) k.1 hS' ?_⟩
      · by_cases q : j = c
        · rw [← q]; exact hun
        · rwa [getD_set_ne true q] at hcu
      · rw [Array.setIfInBounds_comm _ _ e]
        exact k.2.2
theorem butLast_take {i : Nat} {oi : Oper} {v : Value} {n : Nat} {done : Array Bool} {a : Act} {w : World} (hi : ops[i]? = some oi) (hs : Region.noSelect ops = true)
    (hf : Region.free .any ops done i = true) (hr : (Region.ready .any ops done).contains i = true) (hw : Region.waitsFor .any ops m i = true)
    (hQ : ∀ c a w, Q (.panic c) (a.put oi.dst v) w → Q (.panic c) a w) (hy : YieldsIf P ops S oi v a) (hS : S w)
    (h : butLast P ops Q S m n (done.setIfInBounds i true) (a.put oi.dst v) w) : butLast P ops Q S m (n + 1) done a w :=
  butLast_first hi (Region.noSelect_spec hs) hw hQ n done a w (Region.free_spec hi hf) (by simpa using hr) hy hS h
/-- Only one may come up. -/
theorem butLast_one {i n : Nat} {o : Oper} {done : Array Bool} {a : Act} {w : World} (ho : ops[i]? = some o) (hr : Region.ready .any ops done = [i])
    (h : ∀ K : Act → World → Prop, (∀ a' w', (i = m ∨ S w') → butLast P ops Q S m n (done.setIfInBounds i true) a' w' → K a' w') → if Region.wanted o (yielded ops a.tmps) = true then Oper.wp P o a w K Q else K (a.put o.dst undef) w) :
    butLast P ops Q S m (n + 1) done a w := by
  refine ⟨fun z => (by rw [z] at hr; cases hr), fun j hj => ?_⟩
  rw [hr, List.mem_singleton] at hj
  rw [hj]
  exact wpOp_step ho fun K hK => h K fun a' w' h1 h2 => hK a' w' ⟨h1, h2⟩
theorem butLast_end {done : Array Bool} {a : Act} {w : World} {n : Nat} (hr : Region.ready .any ops done = []) (h : Q .normal a w) : butLast P ops Q S m n done a w := by
  cases n with
  | zero => exact ⟨hr, h⟩
  | succ n => exact ⟨fun _ => h, by rw [hr]; simp⟩
theorem wp_region_last (S : World → Prop) (m : Nat) {id : Nat} {a : Act} {w : World} (hm : P.follows .mixedOrders = true) (h : butLast P ops Q S m ops.size (Array.replicate ops.size false) a w.drew) : (Code.region id ops true).wp P Q a w :=
  wp_region_any hm (butLast_any _ _ _ _ h)
end
end Go.Proofs.YtacninhhkbglaaaGreatDoor
/-
  An answer that holds a flight, put into a new box at once.
-/
namespace Go.Proofs.YtacninhhkbglaaaGreatDoor
open Go.ChangeShapes Go.WideShapes Go.ChangeAt Go.RowKit
theorem wrL_size : (Tryz.prog.info? 79).map (·.size) = some 4 := by kernel_rfl
theorem flRNew_put {next : Act → World → Prop} {s d : Nat} {ty : TypeId} {pos : String} {af : Array Edge} {Q : Exit → Act → World → Prop} {a : Act} {X : World} {b : Nat} {zs vs : List Value} (hv : vs.length = 12) (hz : zs.length = 12) (one : vs.all (·.oneCell') = true)
    (h1 : a.eval (.tmp s) = .pointer (some ⟨b, 0, none⟩)) (h2 : a.eval (.tmp d) = .agg vs.toArray)
    (k2 : ∀ i v, zs[i]? = some v → X.cell? ⟨b, i, none⟩ = some v) (f2 : ∀ o, X.frozen? ⟨b, o, none⟩ = false)
    (K : next (a.put none undef) (putAll X b 0 vs)) :
    Oper.wp Tryz.prog { dst := none, op := .store 88 (.tmp s) (.tmp d), type := ty, pos := pos, after := af, guard := none } a X next Q := by
  have hS := run_storeCells_cells (P := Tryz.prog) b 0 vs 0 X (fun j hj => by
      obtain ⟨z, hzz⟩ : ∃ z, zs[j]? = some z := ⟨zs[j]'(by omega), List.getElem?_eq_getElem _⟩
      have := k2 j z hzz
      simp only [Nat.zero_add]
      rw [this]; rfl) (fun j _ => f2 _) (fun v hv => List.all_eq_true.1 one v hv)
  rw [Nat.add_zero, putAll_eq] at hS
  obtain ⟨inf, hi, hsz⟩ := Option.map_eq_some_iff.1 flR_size
  have e2 : ∀ ρ : Operand → Value, ρ (.tmp s) = .pointer (some ⟨b, 0, none⟩) → ρ (.tmp d) = .agg vs.toArray → (execOp ρ { dst := none, op := .store 88 (.tmp s) (.tmp d), type := ty, pos := pos, after := af, guard := none }).run Tryz.prog X = .ok .skip (putAll X b 0 vs) := fun ρ h h' => by
    simp [execOp, Instr.storeAt, storeVar, sizeOf, typeInfo, h, h', hi, hsz, hv, hS, Value.cells, go_sem]
  have w2 := e2 a.eval h1 h2
  clear hS e2 h1 h2
  unfold Oper.wp
  rw [w2]
  exact K
theorem butLast_2 {P : Program} {ops : Array Oper} {Q : Exit → Act → World → Prop} {S : World → Prop} {m i j n : Nat} {oi oj : Oper} {done : Array Bool} {a : Act} {w : World} (hi : ops[i]? = some oi) (hj : ops[j]? = some oj) (hr : Region.ready .any ops done = [i, j])
    (h1 : ∀ K : Act → World → Prop, (∀ a' w', (i = m ∨ S w') → butLast P ops Q S m n (done.setIfInBounds i true) a' w' → K a' w') → if Region.wanted oi (yielded ops a.tmps) = true then Oper.wp P oi a w K Q else K (a.put oi.dst undef) w)
    (h2 : ∀ K : Act → World → Prop, (∀ a' w', (j = m ∨ S w') → butLast P ops Q S m n (done.setIfInBounds j true) a' w' → K a' w') → if Region.wanted oj (yielded ops a.tmps) = true then Oper.wp P oj a w K Q else K (a.put oj.dst undef) w) :
    butLast P ops Q S m (n + 1) done a w := by
  refine ⟨fun z => (by rw [z] at hr; cases hr), fun x hx => ?_⟩
  rw [hr, List.mem_cons, List.mem_singleton] at hx
  rcases hx with rfl | rfl
  · exact wpOp_step hi fun K hK => h1 K fun a' w' h1 h2 => hK a' w' ⟨h1, h2⟩
  · exact wpOp_step hj fun K hK => h2 K fun a' w' h1 h2 => hK a' w' ⟨h1, h2⟩
end Go.Proofs.YtacninhhkbglaaaGreatDoor
/-
  The law of JoinFlight, over contracts.
-/
namespace Go.Proofs.YtacninhhkbglaaaGreatDoor
open Go.ChangeShapes Go.WideShapes Go.ChangeAt Go.RowKit
set_option linter.unusedSimpArgs false in
set_option maxRecDepth 100000 in
set_option maxHeartbeats 32000000 in
theorem walk_Join (w : World) (fid : Int) (fky : ByteArray) (fbk fot : Bool) (fdu : Int) (fdm : Bool) (fm fh fp : ByteArray) (fa : Option Addr) (fn fc : Nat) (ua : Option Addr) (un uc : Nat) (wrq : Int) (whd : Bool) (wdu : Int) (wlt : Bool) (room : Int) (rc qid : Int) (qky : ByteArray) (qbk qot : Bool) (qdu : Int) (qdm : Bool) (qmm qhh qpp : ByteArray) (z1 : Int) (CA1 : Nat → Nat → Nat → Nat → World → Prop) (CR MR : Option Addr → Nat → Nat → Option Addr → Nat → Nat → Nat → Nat → World → Prop) (k1 q : Int) (HZ1 : Hid (∀ X, Below w.heap.size w X → Calls Tryz.prog 24 #[.agg #[.int .i64 fid, .string fky, .bool fbk, .bool fot, .int .i64 fdu, .bool fdm, .string fm, .string fh, .string fp, .slice fa fn fc, .slice ua un uc], .int .i64 1048576] X fun e w' => e = .returned (.int .i64 z1) ∧ Below X.heap.size X w'))
    (HT1 : Hid (¬ z1 < 0 → ∀ X, Below w.heap.size w X → Calls Tryz.prog 26 #[.agg #[.int .i64 fid, .string fky, .bool fbk, .bool fot, .int .i64 fdu, .bool fdm, .string fm, .string fh, .string fp, .slice fa fn fc, .slice ua un uc]] X fun e w' => (∃ (K1 : Nat) (D1 : Nat), e = .returned (.agg #[.int .i64 fid, .string fky, .bool fbk, .bool fot, .int .i64 fdu, .bool fdm, .string fm, .string fh, .string fp, .slice (some ⟨K1, 0, none⟩) fn fn, .slice (some ⟨D1, 0, none⟩) un un]) ∧ At X.heap.size w'.heap.size (CA1 K1 D1) w') ∧ Below X.heap.size X w'))
    (HQ1 : Hid (¬ z1 < 0 → ∀ X la ha lb hb (K1x : Nat) (D1x : Nat) (K1y : Nat) (D1y : Nat), At la ha (CA1 K1x D1x) X → At lb hb (CA1 K1y D1y) X → Calls Tryz.prog 30 #[.agg #[.int .i64 fid, .string fky, .bool fbk, .bool fot, .int .i64 fdu, .bool fdm, .string fm, .string fh, .string fp, .slice (some ⟨K1x, 0, none⟩) fn fn, .slice (some ⟨D1x, 0, none⟩) un un], .agg #[.int .i64 fid, .string fky, .bool fbk, .bool fot, .int .i64 fdu, .bool fdm, .string fm, .string fh, .string fp, .slice (some ⟨K1y, 0, none⟩) fn fn, .slice (some ⟨D1y, 0, none⟩) un un]] X fun e w' => e = .returned (.bool true) ∧ Below X.heap.size X w'))
    (HM1 : Hid (¬ z1 < 0 → ∀ X l h (K1 : Nat) (D1 : Nat), At l h (CA1 K1 D1) X → w.heap.size ≤ l → Calls Tryz.prog 31 #[.agg #[.int .i64 fid, .string fky, .bool fbk, .bool fot, .int .i64 fdu, .bool fdm, .string fm, .string fh, .string fp, .slice (some ⟨K1, 0, none⟩) fn fn, .slice (some ⟨D1, 0, none⟩) un un], .int .i64 1] X fun e w' => e = .returned (.int .i64 k1) ∧ Wi l h X w' ∧ Below w.heap.size X w'))
    (HP : Hid (¬ z1 < 0 → ∀ X, Calls Tryz.prog 27 #[.agg #[.int .i64 wrq, .bool whd, .int .i64 wdu, .bool wlt]] X fun e w' => e = .returned (.agg #[.int .i64 wrq, .bool whd, .int .i64 wdu, .bool wlt]) ∧ Below X.heap.size X w'))
    (HF : Hid (¬ z1 < 0 → ∀ X l1 h1 (K1 : Nat) (D1 : Nat), Below w.heap.size w X → At l1 h1 (CA1 K1 D1) X → Calls Tryz.prog 25 #[.agg #[.int .i64 fid, .string fky, .bool fbk, .bool fot, .int .i64 fdu, .bool fdm, .string fm, .string fh, .string fp, .slice (some ⟨K1, 0, none⟩) fn fn, .slice (some ⟨D1, 0, none⟩) un un], .agg #[.int .i64 wrq, .bool whd, .int .i64 wdu, .bool wlt], .int .i64 room] X fun e w' => (∃ (rar : Option Addr) (rnr : Nat) (rkr : Nat) (war : Option Addr) (wnr : Nat) (wkr : Nat), e = .returned (.agg #[.int .i64 rc, .int .i64 qid, .string qky, .bool qbk, .bool qot, .int .i64 qdu, .bool qdm, .string qmm, .string qhh, .string qpp, .slice rar rnr rkr, .slice war wnr wkr]) ∧ At X.heap.size w'.heap.size (CR rar rnr rkr war wnr wkr) w') ∧ Below X.heap.size X w'))
    (HG : Hid (¬ z1 < 0 → ∀ X l1 h1 (K1 : Nat) (D1 : Nat), Below w.heap.size w X → At l1 h1 (CA1 K1 D1) X → Calls Tryz.prog 28 #[.agg #[.int .i64 fid, .string fky, .bool fbk, .bool fot, .int .i64 fdu, .bool fdm, .string fm, .string fh, .string fp, .slice (some ⟨K1, 0, none⟩) fn fn, .slice (some ⟨D1, 0, none⟩) un un], .agg #[.int .i64 wrq, .bool whd, .int .i64 wdu, .bool wlt], .int .i64 room] X fun e w' => (∃ (rar : Option Addr) (rnr : Nat) (rkr : Nat) (war : Option Addr) (wnr : Nat) (wkr : Nat), e = .returned (.agg #[.int .i64 rc, .int .i64 qid, .string qky, .bool qbk, .bool qot, .int .i64 qdu, .bool qdm, .string qmm, .string qhh, .string qpp, .slice rar rnr rkr, .slice war wnr wkr]) ∧ At X.heap.size w'.heap.size (CR rar rnr rkr war wnr wkr) w') ∧ Below X.heap.size X w'))
    (HEQ : Hid (¬ z1 < 0 → ∀ X la ha lb hb (rax : Option Addr) (rnx : Nat) (rkx : Nat) (wax : Option Addr) (wnx : Nat) (wkx : Nat) (ray : Option Addr) (rny : Nat) (rky : Nat) (way : Option Addr) (wny : Nat) (wky : Nat), At la ha (CR rax rnx rkx wax wnx wkx) X → At lb hb (CR ray rny rky way wny wky) X → Calls Tryz.prog 29 #[.agg #[.int .i64 rc, .int .i64 qid, .string qky, .bool qbk, .bool qot, .int .i64 qdu, .bool qdm, .string qmm, .string qhh, .string qpp, .slice rax rnx rkx, .slice wax wnx wkx], .agg #[.int .i64 rc, .int .i64 qid, .string qky, .bool qbk, .bool qot, .int .i64 qdu, .bool qdm, .string qmm, .string qhh, .string qpp, .slice ray rny rky, .slice way wny wky]] X fun e w' => e = .returned (.bool true) ∧ Below X.heap.size X w'))
    (HMR : Hid (¬ z1 < 0 → ∀ X l h (rar : Option Addr) (rnr : Nat) (rkr : Nat) (war : Option Addr) (wnr : Nat) (wkr : Nat), Below w.heap.size w X → At l h (CR rar rnr rkr war wnr wkr) X → w.heap.size ≤ l → Calls Tryz.prog 32 #[.agg #[.int .i64 rc, .int .i64 qid, .string qky, .bool qbk, .bool qot, .int .i64 qdu, .bool qdm, .string qmm, .string qhh, .string qpp, .slice rar rnr rkr, .slice war wnr wkr], .int .i64 1] X fun e w' => e = .returned (.int .i64 q) ∧ At l h (MR rar rnr rkr war wnr wkr) w' ∧ Wi l h X w' ∧ Below w.heap.size X w'))
    (HHR : Hid (¬ z1 < 0 → ∀ X l h (rar : Option Addr) (rnr : Nat) (rkr : Nat) (war : Option Addr) (wnr : Nat) (wkr : Nat), At l h (MR rar rnr rkr war wnr wkr) X → Calls Tryz.prog 33 #[.agg #[.int .i64 rc, .int .i64 qid, .string qky, .bool qbk, .bool qot, .int .i64 qdu, .bool qdm, .string qmm, .string qhh, .string qpp, .slice rar rnr rkr, .slice war wnr wkr], .int .i64 1] X fun e w' => e = .returned (.int .i64 q) ∧ Below X.heap.size X w'))
    (hk0 : ¬ k1 < 0) (hq0 : ¬ q < 0) :
    Calls Tryz.prog 7 #[.agg #[.int .i64 fid, .string fky, .bool fbk, .bool fot, .int .i64 fdu, .bool fdm, .string fm, .string fh, .string fp, .slice fa fn fc, .slice ua un uc], .agg #[.int .i64 wrq, .bool whd, .int .i64 wdu, .bool wlt], .int .i64 room] w fun e w' => e = .returned (.bool true) ∧ Below w.heap.size w w' := by
  obtain ⟨W, hW⟩ : ∃ W, W = ((w.alloc (.cells #[.int .i64 fid, .string fky, .bool fbk, .bool fot, .int .i64 fdu, .bool fdm, .string fm, .string fh, .string fp, .slice fa fn fc, .slice ua un uc] 77)).alloc (.cells #[.int .i64 wrq, .bool whd, .int .i64 wdu, .bool wlt] 79)) := ⟨_, rfl⟩
  have HW : Hid (W = ((w.alloc (.cells #[.int .i64 fid, .string fky, .bool fbk, .bool fot, .int .i64 fdu, .bool fdm, .string fm, .string fh, .string fp, .slice fa fn fc, .slice ua un uc] 77)).alloc (.cells #[.int .i64 wrq, .bool whd, .int .i64 wdu, .bool wlt] 79))) := hW
  have KW : Hid (Below w.heap.size w W) := by rw [hW]; exact (((Below.refl _ _).alloc (Nat.le_refl _) _).alloc (by simp) _)
  have SW : Hid (w.heap.size + 2 ≤ W.heap.size) := by rw [hW]; show _ ≤ _; simp
  have FA1_0 : Hid (At w.heap.size (w.heap.size + 1) (Bx w.heap.size [.int .i64 fid, .string fky, .bool fbk, .bool fot, .int .i64 fdu, .bool fdm, .string fm, .string fh, .string fp, .slice fa fn fc, .slice ua un uc]) W) := by rw [hW]; exact (Bx.newAt rfl [.int .i64 fid, .string fky, .bool fbk, .bool fot, .int .i64 fdu, .bool fdm, .string fm, .string fh, .string fp, .slice fa fn fc, .slice ua un uc] _).al _
  have FA9_0 : Hid (At (w.heap.size + 1) ((w.heap.size + 1) + 1) (Bx (w.heap.size + 1) [.int .i64 wrq, .bool whd, .int .i64 wdu, .bool wlt]) W) := by rw [hW]; exact Bx.newAt (by simp) [.int .i64 wrq, .bool whd, .int .i64 wdu, .bool wlt] _
  clear hW
  go_enter Tryz.func7, Tryz.ntmps7
  go_upto_region 2 with fail
  rw [← HW.out]
  clear HW
  have LFA1_0 := hidL FA1_0.out.val.1
  go_wp2_with (first | ((with_reducible refine flL_load (b := w.heap.size) (vs := [.int .i64 fid, .string fky, .bool fbk, .bool fot, .int .i64 fdu, .bool fdm, .string fm, .string fh, .string fp, .slice fa fn fc, .slice ua un uc]) ?_ ?_ LFA1_0.out ?_); exact rfl; exact rfl))
  clear LFA1_0
  refine (HZ1.out  _ KW.out).mono ?_
  rintro e0 w1 ⟨rfl, hb⟩
  have K2 : Hid (Below w.heap.size w w1) := KW.out.trans (hb.mono KW.out.size)
  have F3 : Hid (At w.heap.size (w.heap.size + 1) (Bx w.heap.size [.int .i64 fid, .string fky, .bool fbk, .bool fot, .int .i64 fdu, .bool fdm, .string fm, .string fh, .string fp, .slice fa fn fc, .slice ua un uc]) w1) := FA1_0.out.keep hb
  have F4 : Hid (At (w.heap.size + 1) ((w.heap.size + 1) + 1) (Bx (w.heap.size + 1) [.int .i64 wrq, .bool whd, .int .i64 wdu, .bool wlt]) w1) := FA9_0.out.keep hb
  clear KW FA1_0 FA9_0 hb
  clear HZ1
  by_cases cz1 : z1 < 0
  · clear HT1 HQ1 HM1 HP HF HG HEQ HMR HHR F3 F4 SW
    go_wp2_with fail
    go_ret
    exact ⟨rfl, K2.out⟩
  replace HT1 := hidL (HT1.out (by omega))
  replace HQ1 := hidL (HQ1.out (by omega))
  replace HM1 := hidL (HM1.out (by omega))
  replace HP := hidL (HP.out (by omega))
  replace HF := hidL (HF.out (by omega))
  replace HG := hidL (HG.out (by omega))
  replace HEQ := hidL (HEQ.out (by omega))
  replace HMR := hidL (HMR.out (by omega))
  replace HHR := hidL (HHR.out (by omega))
  go_upto_region 5 with fail
  go_cut [8] from 20 to 25 (fun sx wx => ∃ (X0 ls hs : Nat) (ras : Option Addr) (rns : Nat) (rks : Nat) (was : Option Addr) (wns : Nat) (wks : Nat), sx = .pointer (some ⟨X0, 0, none⟩) ∧ Below w1.heap.size w1 wx ∧ At X0 (X0 + 1) (Bx X0 [.int .i64 rc, .int .i64 qid, .string qky, .bool qbk, .bool qot, .int .i64 qdu, .bool qdm, .string qmm, .string qhh, .string qpp, .slice ras rns rks, .slice was wns wks]) wx ∧ At ls hs (CR ras rns rks was wns wks) wx ∧ (X0 < ls ∨ hs ≤ X0) ∧ w1.heap.size ≤ X0 ∧ w1.heap.size ≤ ls ∧ ls ≤ hs)
  case first =>
    have HKS : Hid (∀ X, Below w1.heap.size w1 X → X.rangeAt w.heap.size 0 [.int .i64 fid, .string fky, .bool fbk, .bool fot, .int .i64 fdu, .bool fdm, .string fm, .string fh, .string fp, .slice fa fn fc, .slice ua un uc] ∧ X.rangeAt (w.heap.size + 1) 0 [.int .i64 wrq, .bool whd, .int .i64 wdu, .bool wlt]) := fun X hX => ⟨range_of (F3.out.keep hX).val.1, range_of (F4.out.keep hX).val.1⟩
    have KX : Hid (∀ X, Below w1.heap.size w1 X → Below w.heap.size w X) := fun X hX => K2.out.trans (hX.mono K2.out.size)
    have B0 : Hid (Below w1.heap.size w1 w1.drew) := (Below.refl _ _).drew
    have HS0 := HKS.out _ B0.out
    refine wp_region_last (fun X => X.rangeAt w.heap.size 0 [.int .i64 fid, .string fky, .bool fbk, .bool fot, .int .i64 fdu, .bool fdm, .string fm, .string fh, .string fp, .slice fa fn fc, .slice ua un uc] ∧ X.rangeAt (w.heap.size + 1) 0 [.int .i64 wrq, .bool whd, .int .i64 wdu, .bool wlt]) 7 (by kernel_rfl) ?_
    refine butLast_take (i := 0) (oi := _) (v := .agg #[.int .i64 fid, .string fky, .bool fbk, .bool fot, .int .i64 fdu, .bool fdm, .string fm, .string fh, .string fp, .slice fa fn fc, .slice ua un uc]) rfl (by kernel_rfl) (by kernel_rfl) (by kernel_rfl) (by kernel_rfl) (fun _ _ _ h => h) (yieldsIf_load_mid (by rfl) _ _ rfl (w.heap.size) 0 rfl _ _ (fun _ h => h.1) Tryz.underlying77 rfl flL_size) HS0 ?_
    try simp only [Act.put, List.setIfInBounds_toArray, List.set_cons_zero, List.set_cons_succ]
    refine butLast_take (i := 2) (oi := _) (v := .agg #[.int .i64 wrq, .bool whd, .int .i64 wdu, .bool wlt]) rfl (by kernel_rfl) (by kernel_rfl) (by kernel_rfl) (by kernel_rfl) (fun _ _ _ h => h) (yieldsIf_load_mid (by rfl) _ _ rfl ((w.heap.size + 1)) 0 rfl _ _ (fun _ h => h.2) Tryz.underlying79 rfl wrL_size) HS0 ?_
    try simp only [Act.put, List.setIfInBounds_toArray, List.set_cons_zero, List.set_cons_succ]
    refine butLast_take (i := 4) (oi := _) (v := .int .i64 room) rfl (by kernel_rfl) (by kernel_rfl) (by kernel_rfl) (by kernel_rfl) (fun _ _ _ h => h) (Or.inl ⟨by kernel_rfl, ?_⟩) HS0 ?_
    · rintro X ⟨s1, s2⟩
      go_simp
    try simp only [Act.put, List.setIfInBounds_toArray, List.set_cons_zero, List.set_cons_succ]
    clear HS0
    refine butLast_2 (i := 1) (j := 6) rfl rfl (by kernel_rfl) (fun K hK => ?_) (fun K hK => ?_)
    · go_simp
      (with_reducible refine (HT1.out w1.drew (KX.out _ B0.out)).mono ?_)
      rintro e0 us0 ⟨⟨K1sc, D1sc, rfl, ca⟩, hb⟩
      have B0a : Hid (Below w1.heap.size w1 us0) := B0.out.trans (hb.mono B0.out.size)
      have CC := hidL ca
      clear hb ca
      refine hK _ _ (.inr (HKS.out _ B0a.out)) ?_
      clear hK K
      try simp only [Act.put, List.setIfInBounds_toArray, List.set_cons_zero, List.set_cons_succ]
      refine butLast_2 (i := 3) (j := 6) rfl rfl (by kernel_rfl) (fun K hK => ?_) (fun K hK => ?_)
      · go_simp
        (with_reducible refine (HP.out us0).mono ?_)
        rintro e0 us1 ⟨rfl, hb⟩
        have B1a : Hid (Below w1.heap.size w1 us1) := B0a.out.trans (hb.mono B0a.out.size)
        replace CC := hidL (CC.out.keep hb)
        clear hb
        refine hK _ _ (.inr (HKS.out _ B1a.out)) ?_
        clear hK K
        try simp only [Act.put, List.setIfInBounds_toArray, List.set_cons_zero, List.set_cons_succ]
        refine butLast_2 (i := 5) (j := 6) rfl rfl (by kernel_rfl) (fun K hK => ?_) (fun K hK => ?_)
        · go_simp
          have WX := hidL (show w1.heap.size ≤ us1.heap.size from B1a.out.size)
          (with_reducible refine (HF.out us1 _ _ _ _ (KX.out _ B1a.out) CC.out).mono ?_)
          rintro e0 us2 ⟨⟨ras, rns, rks, was, wns, wks, rfl, cr⟩, hb⟩
          have B2a : Hid (Below w1.heap.size w1 us2) := B1a.out.trans (hb.mono B1a.out.size)
          have CRf := hidL cr
          have SZ := hidL (show us1.heap.size ≤ us2.heap.size from hb.size)
          clear hb cr
          refine hK _ _ (.inr (HKS.out _ B2a.out)) ?_
          clear hK K
          try simp only [Act.put, List.setIfInBounds_toArray, List.set_cons_zero, List.set_cons_succ]
          refine butLast_one (i := 6) rfl (by kernel_rfl) (fun K hK => ?_)
          go_simp
          have A3 : Hid (Below w1.heap.size w1 (us2.alloc (.cells #[.int .i64 0, .int .i64 0, .string ⟨#[]⟩, .bool false, .bool false, .int .i64 0, .bool false, .string ⟨#[]⟩, .string ⟨#[]⟩, .string ⟨#[]⟩, .slice none 0 0, .slice none 0 0] 88))) := B2a.out.alloc B2a.out.size _
          have ZZ : Hid (At us2.heap.size (us2.heap.size + 1) (Bx us2.heap.size [.int .i64 0, .int .i64 0, .string ⟨#[]⟩, .bool false, .bool false, .int .i64 0, .bool false, .string ⟨#[]⟩, .string ⟨#[]⟩, .string ⟨#[]⟩, .slice none 0 0, .slice none 0 0]) (us2.alloc (.cells #[.int .i64 0, .int .i64 0, .string ⟨#[]⟩, .bool false, .bool false, .int .i64 0, .bool false, .string ⟨#[]⟩, .string ⟨#[]⟩, .string ⟨#[]⟩, .slice none 0 0, .slice none 0 0] 88))) := Bx.newAt rfl [.int .i64 0, .int .i64 0, .string ⟨#[]⟩, .bool false, .bool false, .int .i64 0, .bool false, .string ⟨#[]⟩, .string ⟨#[]⟩, .string ⟨#[]⟩, .slice none 0 0, .slice none 0 0] _
          have XZ := hidL (show w1.heap.size ≤ us2.heap.size from B2a.out.size)
          replace CRf := hidL (CRf.out.al (.cells #[.int .i64 0, .int .i64 0, .string ⟨#[]⟩, .bool false, .bool false, .int .i64 0, .bool false, .string ⟨#[]⟩, .string ⟨#[]⟩, .string ⟨#[]⟩, .slice none 0 0, .slice none 0 0] 88))
          refine hK _ _ (.inr (HKS.out _ A3.out)) ?_
          clear hK K
          try simp only [Act.put, List.setIfInBounds_toArray, List.set_cons_zero, List.set_cons_succ]
          refine butLast_one (i := 7) rfl (by kernel_rfl) (fun K hK => ?_)
          have LZ := hidL ZZ.out.val.1
          have LZf := hidL ZZ.out.val.2
          simp only [List.getElem_toArray, List.getElem_cons_succ, List.getElem_cons_zero]
          rw [if_pos (by simp [Region.wanted])]
          with_reducible refine flRNew_put (b := us2.heap.size) (zs := [.int .i64 0, .int .i64 0, .string ⟨#[]⟩, .bool false, .bool false, .int .i64 0, .bool false, .string ⟨#[]⟩, .string ⟨#[]⟩, .string ⟨#[]⟩, .slice none 0 0, .slice none 0 0]) (vs := [.int .i64 rc, .int .i64 qid, .string qky, .bool qbk, .bool qot, .int .i64 qdu, .bool qdm, .string qmm, .string qhh, .string qpp, .slice ras rns rks, .slice was wns wks]) ?_ ?_ ?_ ?_ ?_ LZ.out LZf.out ?_
          · rfl
          · rfl
          · rfl
          · rfl
          · rfl
          refine hK _ _ (.inl rfl) ?_
          clear LZ LZf
          clear hK K
          try simp only [Act.put, List.setIfInBounds_toArray, List.set_cons_zero, List.set_cons_succ]
          refine butLast_end (by kernel_rfl) ?_
          have FIN := hidL (show Below w1.heap.size w1 (putAll (us2.alloc (.cells #[.int .i64 0, .int .i64 0, .string ⟨#[]⟩, .bool false, .bool false, .int .i64 0, .bool false, .string ⟨#[]⟩, .string ⟨#[]⟩, .string ⟨#[]⟩, .slice none 0 0, .slice none 0 0] 88)) us2.heap.size 0 [.int .i64 rc, .int .i64 qid, .string qky, .bool qbk, .bool qot, .int .i64 qdu, .bool qdm, .string qmm, .string qhh, .string qpp, .slice ras rns rks, .slice was wns wks]) ∧ At us2.heap.size (us2.heap.size + 1) (Bx us2.heap.size [.int .i64 rc, .int .i64 qid, .string qky, .bool qbk, .bool qot, .int .i64 qdu, .bool qdm, .string qmm, .string qhh, .string qpp, .slice ras rns rks, .slice was wns wks]) (putAll (us2.alloc (.cells #[.int .i64 0, .int .i64 0, .string ⟨#[]⟩, .bool false, .bool false, .int .i64 0, .bool false, .string ⟨#[]⟩, .string ⟨#[]⟩, .string ⟨#[]⟩, .slice none 0 0, .slice none 0 0] 88)) us2.heap.size 0 [.int .i64 rc, .int .i64 qid, .string qky, .bool qbk, .bool qot, .int .i64 qdu, .bool qdm, .string qmm, .string qhh, .string qpp, .slice ras rns rks, .slice was wns wks]) ∧ At us1.heap.size us2.heap.size (CR ras rns rks was wns wks) (putAll (us2.alloc (.cells #[.int .i64 0, .int .i64 0, .string ⟨#[]⟩, .bool false, .bool false, .int .i64 0, .bool false, .string ⟨#[]⟩, .string ⟨#[]⟩, .string ⟨#[]⟩, .slice none 0 0, .slice none 0 0] 88)) us2.heap.size 0 [.int .i64 rc, .int .i64 qid, .string qky, .bool qbk, .bool qot, .int .i64 qdu, .bool qdm, .string qmm, .string qhh, .string qpp, .slice ras rns rks, .slice was wns wks]) ∧ (us2.heap.size < us1.heap.size ∨ us2.heap.size ≤ us2.heap.size) ∧ w1.heap.size ≤ us2.heap.size ∧ w1.heap.size ≤ us1.heap.size ∧ us1.heap.size ≤ us2.heap.size from ⟨below_putAll XZ.out [.int .i64 rc, .int .i64 qid, .string qky, .bool qbk, .bool qot, .int .i64 qdu, .bool qdm, .string qmm, .string qhh, .string qpp, .slice ras rns rks, .slice was wns wks] 0 A3.out, Bx.putAll ZZ.out [.int .i64 rc, .int .i64 qid, .string qky, .bool qbk, .bool qot, .int .i64 qdu, .bool qdm, .string qmm, .string qhh, .string qpp, .slice ras rns rks, .slice was wns wks] rfl, At.putAll (.inr (Nat.le_refl _)) [.int .i64 rc, .int .i64 qid, .string qky, .bool qbk, .bool qot, .int .i64 qdu, .bool qdm, .string qmm, .string qhh, .string qpp, .slice ras rns rks, .slice was wns wks] 0 CRf.out, (.inr (Nat.le_refl _)), XZ.out, WX.out, SZ.out⟩)
          clear HKS KX
          go_wp2_with fail
          go_meet
          exact ⟨_, _, _, _, _, _, _, _, _, rfl, FIN.out⟩
        · go_simp
          have A2 : Hid (Below w1.heap.size w1 (us1.alloc (.cells #[.int .i64 0, .int .i64 0, .string ⟨#[]⟩, .bool false, .bool false, .int .i64 0, .bool false, .string ⟨#[]⟩, .string ⟨#[]⟩, .string ⟨#[]⟩, .slice none 0 0, .slice none 0 0] 88))) := B1a.out.alloc B1a.out.size _
          have ZZ : Hid (At us1.heap.size (us1.heap.size + 1) (Bx us1.heap.size [.int .i64 0, .int .i64 0, .string ⟨#[]⟩, .bool false, .bool false, .int .i64 0, .bool false, .string ⟨#[]⟩, .string ⟨#[]⟩, .string ⟨#[]⟩, .slice none 0 0, .slice none 0 0]) (us1.alloc (.cells #[.int .i64 0, .int .i64 0, .string ⟨#[]⟩, .bool false, .bool false, .int .i64 0, .bool false, .string ⟨#[]⟩, .string ⟨#[]⟩, .string ⟨#[]⟩, .slice none 0 0, .slice none 0 0] 88))) := Bx.newAt rfl [.int .i64 0, .int .i64 0, .string ⟨#[]⟩, .bool false, .bool false, .int .i64 0, .bool false, .string ⟨#[]⟩, .string ⟨#[]⟩, .string ⟨#[]⟩, .slice none 0 0, .slice none 0 0] _
          have XZ := hidL (show w1.heap.size ≤ us1.heap.size from B1a.out.size)
          replace CC := hidL (CC.out.al (.cells #[.int .i64 0, .int .i64 0, .string ⟨#[]⟩, .bool false, .bool false, .int .i64 0, .bool false, .string ⟨#[]⟩, .string ⟨#[]⟩, .string ⟨#[]⟩, .slice none 0 0, .slice none 0 0] 88))
          refine hK _ _ (.inr (HKS.out _ A2.out)) ?_
          clear hK K
          try simp only [Act.put, List.setIfInBounds_toArray, List.set_cons_zero, List.set_cons_succ]
          refine butLast_one (i := 5) rfl (by kernel_rfl) (fun K hK => ?_)
          go_simp
          have WX := hidL (show w1.heap.size ≤ (us1.alloc (.cells #[.int .i64 0, .int .i64 0, .string ⟨#[]⟩, .bool false, .bool false, .int .i64 0, .bool false, .string ⟨#[]⟩, .string ⟨#[]⟩, .string ⟨#[]⟩, .slice none 0 0, .slice none 0 0] 88)).heap.size from A2.out.size)
          have ZLT := hidL (show us1.heap.size < (us1.alloc (.cells #[.int .i64 0, .int .i64 0, .string ⟨#[]⟩, .bool false, .bool false, .int .i64 0, .bool false, .string ⟨#[]⟩, .string ⟨#[]⟩, .string ⟨#[]⟩, .slice none 0 0, .slice none 0 0] 88)).heap.size from ZZ.out.le)
          (with_reducible refine (HF.out (us1.alloc (.cells #[.int .i64 0, .int .i64 0, .string ⟨#[]⟩, .bool false, .bool false, .int .i64 0, .bool false, .string ⟨#[]⟩, .string ⟨#[]⟩, .string ⟨#[]⟩, .slice none 0 0, .slice none 0 0] 88)) _ _ _ _ (KX.out _ A2.out) CC.out).mono ?_)
          rintro e0 us2 ⟨⟨ras, rns, rks, was, wns, wks, rfl, cr⟩, hb⟩
          have B2b : Hid (Below w1.heap.size w1 us2) := A2.out.trans (hb.mono A2.out.size)
          have CRf := hidL cr
          have SZ := hidL (show (us1.alloc (.cells #[.int .i64 0, .int .i64 0, .string ⟨#[]⟩, .bool false, .bool false, .int .i64 0, .bool false, .string ⟨#[]⟩, .string ⟨#[]⟩, .string ⟨#[]⟩, .slice none 0 0, .slice none 0 0] 88)).heap.size ≤ us2.heap.size from hb.size)
          replace ZZ := hidL (ZZ.out.keep hb)
          clear hb cr
          refine hK _ _ (.inr (HKS.out _ B2b.out)) ?_
          clear hK K
          try simp only [Act.put, List.setIfInBounds_toArray, List.set_cons_zero, List.set_cons_succ]
          refine butLast_one (i := 7) rfl (by kernel_rfl) (fun K hK => ?_)
          have LZ := hidL ZZ.out.val.1
          have LZf := hidL ZZ.out.val.2
          simp only [List.getElem_toArray, List.getElem_cons_succ, List.getElem_cons_zero]
          rw [if_pos (by simp [Region.wanted])]
          with_reducible refine flRNew_put (b := us1.heap.size) (zs := [.int .i64 0, .int .i64 0, .string ⟨#[]⟩, .bool false, .bool false, .int .i64 0, .bool false, .string ⟨#[]⟩, .string ⟨#[]⟩, .string ⟨#[]⟩, .slice none 0 0, .slice none 0 0]) (vs := [.int .i64 rc, .int .i64 qid, .string qky, .bool qbk, .bool qot, .int .i64 qdu, .bool qdm, .string qmm, .string qhh, .string qpp, .slice ras rns rks, .slice was wns wks]) ?_ ?_ ?_ ?_ ?_ LZ.out LZf.out ?_
          · rfl
          · rfl
          · rfl
          · rfl
          · rfl
          refine hK _ _ (.inl rfl) ?_
          clear LZ LZf
          clear hK K
          try simp only [Act.put, List.setIfInBounds_toArray, List.set_cons_zero, List.set_cons_succ]
          refine butLast_end (by kernel_rfl) ?_
          have FIN := hidL (show Below w1.heap.size w1 (putAll us2 us1.heap.size 0 [.int .i64 rc, .int .i64 qid, .string qky, .bool qbk, .bool qot, .int .i64 qdu, .bool qdm, .string qmm, .string qhh, .string qpp, .slice ras rns rks, .slice was wns wks]) ∧ At us1.heap.size (us1.heap.size + 1) (Bx us1.heap.size [.int .i64 rc, .int .i64 qid, .string qky, .bool qbk, .bool qot, .int .i64 qdu, .bool qdm, .string qmm, .string qhh, .string qpp, .slice ras rns rks, .slice was wns wks]) (putAll us2 us1.heap.size 0 [.int .i64 rc, .int .i64 qid, .string qky, .bool qbk, .bool qot, .int .i64 qdu, .bool qdm, .string qmm, .string qhh, .string qpp, .slice ras rns rks, .slice was wns wks]) ∧ At (us1.alloc (.cells #[.int .i64 0, .int .i64 0, .string ⟨#[]⟩, .bool false, .bool false, .int .i64 0, .bool false, .string ⟨#[]⟩, .string ⟨#[]⟩, .string ⟨#[]⟩, .slice none 0 0, .slice none 0 0] 88)).heap.size us2.heap.size (CR ras rns rks was wns wks) (putAll us2 us1.heap.size 0 [.int .i64 rc, .int .i64 qid, .string qky, .bool qbk, .bool qot, .int .i64 qdu, .bool qdm, .string qmm, .string qhh, .string qpp, .slice ras rns rks, .slice was wns wks]) ∧ (us1.heap.size < (us1.alloc (.cells #[.int .i64 0, .int .i64 0, .string ⟨#[]⟩, .bool false, .bool false, .int .i64 0, .bool false, .string ⟨#[]⟩, .string ⟨#[]⟩, .string ⟨#[]⟩, .slice none 0 0, .slice none 0 0] 88)).heap.size ∨ us2.heap.size ≤ us1.heap.size) ∧ w1.heap.size ≤ us1.heap.size ∧ w1.heap.size ≤ (us1.alloc (.cells #[.int .i64 0, .int .i64 0, .string ⟨#[]⟩, .bool false, .bool false, .int .i64 0, .bool false, .string ⟨#[]⟩, .string ⟨#[]⟩, .string ⟨#[]⟩, .slice none 0 0, .slice none 0 0] 88)).heap.size ∧ (us1.alloc (.cells #[.int .i64 0, .int .i64 0, .string ⟨#[]⟩, .bool false, .bool false, .int .i64 0, .bool false, .string ⟨#[]⟩, .string ⟨#[]⟩, .string ⟨#[]⟩, .slice none 0 0, .slice none 0 0] 88)).heap.size ≤ us2.heap.size from ⟨below_putAll XZ.out [.int .i64 rc, .int .i64 qid, .string qky, .bool qbk, .bool qot, .int .i64 qdu, .bool qdm, .string qmm, .string qhh, .string qpp, .slice ras rns rks, .slice was wns wks] 0 B2b.out, Bx.putAll ZZ.out [.int .i64 rc, .int .i64 qid, .string qky, .bool qbk, .bool qot, .int .i64 qdu, .bool qdm, .string qmm, .string qhh, .string qpp, .slice ras rns rks, .slice was wns wks] rfl, At.putAll (.inl ZLT.out) [.int .i64 rc, .int .i64 qid, .string qky, .bool qbk, .bool qot, .int .i64 qdu, .bool qdm, .string qmm, .string qhh, .string qpp, .slice ras rns rks, .slice was wns wks] 0 CRf.out, (.inl ZLT.out), XZ.out, WX.out, SZ.out⟩)
          clear HKS KX
          go_wp2_with fail
          go_meet
          exact ⟨_, _, _, _, _, _, _, _, _, rfl, FIN.out⟩
      · go_simp
        have A1 : Hid (Below w1.heap.size w1 (us0.alloc (.cells #[.int .i64 0, .int .i64 0, .string ⟨#[]⟩, .bool false, .bool false, .int .i64 0, .bool false, .string ⟨#[]⟩, .string ⟨#[]⟩, .string ⟨#[]⟩, .slice none 0 0, .slice none 0 0] 88))) := B0a.out.alloc B0a.out.size _
        have ZZ : Hid (At us0.heap.size (us0.heap.size + 1) (Bx us0.heap.size [.int .i64 0, .int .i64 0, .string ⟨#[]⟩, .bool false, .bool false, .int .i64 0, .bool false, .string ⟨#[]⟩, .string ⟨#[]⟩, .string ⟨#[]⟩, .slice none 0 0, .slice none 0 0]) (us0.alloc (.cells #[.int .i64 0, .int .i64 0, .string ⟨#[]⟩, .bool false, .bool false, .int .i64 0, .bool false, .string ⟨#[]⟩, .string ⟨#[]⟩, .string ⟨#[]⟩, .slice none 0 0, .slice none 0 0] 88))) := Bx.newAt rfl [.int .i64 0, .int .i64 0, .string ⟨#[]⟩, .bool false, .bool false, .int .i64 0, .bool false, .string ⟨#[]⟩, .string ⟨#[]⟩, .string ⟨#[]⟩, .slice none 0 0, .slice none 0 0] _
        have XZ := hidL (show w1.heap.size ≤ us0.heap.size from B0a.out.size)
        replace CC := hidL (CC.out.al (.cells #[.int .i64 0, .int .i64 0, .string ⟨#[]⟩, .bool false, .bool false, .int .i64 0, .bool false, .string ⟨#[]⟩, .string ⟨#[]⟩, .string ⟨#[]⟩, .slice none 0 0, .slice none 0 0] 88))
        refine hK _ _ (.inr (HKS.out _ A1.out)) ?_
        clear hK K
        try simp only [Act.put, List.setIfInBounds_toArray, List.set_cons_zero, List.set_cons_succ]
        refine butLast_one (i := 3) rfl (by kernel_rfl) (fun K hK => ?_)
        go_simp
        (with_reducible refine (HP.out (us0.alloc (.cells #[.int .i64 0, .int .i64 0, .string ⟨#[]⟩, .bool false, .bool false, .int .i64 0, .bool false, .string ⟨#[]⟩, .string ⟨#[]⟩, .string ⟨#[]⟩, .slice none 0 0, .slice none 0 0] 88))).mono ?_)
        rintro e0 us1 ⟨rfl, hb⟩
        have B1b : Hid (Below w1.heap.size w1 us1) := A1.out.trans (hb.mono A1.out.size)
        replace CC := hidL (CC.out.keep hb)
        replace ZZ := hidL (ZZ.out.keep hb)
        clear hb
        refine hK _ _ (.inr (HKS.out _ B1b.out)) ?_
        clear hK K
        try simp only [Act.put, List.setIfInBounds_toArray, List.set_cons_zero, List.set_cons_succ]
        refine butLast_one (i := 5) rfl (by kernel_rfl) (fun K hK => ?_)
        go_simp
        have WX := hidL (show w1.heap.size ≤ us1.heap.size from B1b.out.size)
        have ZLT := hidL (show us0.heap.size < us1.heap.size from ZZ.out.le)
        (with_reducible refine (HF.out us1 _ _ _ _ (KX.out _ B1b.out) CC.out).mono ?_)
        rintro e0 us2 ⟨⟨ras, rns, rks, was, wns, wks, rfl, cr⟩, hb⟩
        have B2b : Hid (Below w1.heap.size w1 us2) := B1b.out.trans (hb.mono B1b.out.size)
        have CRf := hidL cr
        have SZ := hidL (show us1.heap.size ≤ us2.heap.size from hb.size)
        replace ZZ := hidL (ZZ.out.keep hb)
        clear hb cr
        refine hK _ _ (.inr (HKS.out _ B2b.out)) ?_
        clear hK K
        try simp only [Act.put, List.setIfInBounds_toArray, List.set_cons_zero, List.set_cons_succ]
        refine butLast_one (i := 7) rfl (by kernel_rfl) (fun K hK => ?_)
        have LZ := hidL ZZ.out.val.1
        have LZf := hidL ZZ.out.val.2
        simp only [List.getElem_toArray, List.getElem_cons_succ, List.getElem_cons_zero]
        rw [if_pos (by simp [Region.wanted])]
        with_reducible refine flRNew_put (b := us0.heap.size) (zs := [.int .i64 0, .int .i64 0, .string ⟨#[]⟩, .bool false, .bool false, .int .i64 0, .bool false, .string ⟨#[]⟩, .string ⟨#[]⟩, .string ⟨#[]⟩, .slice none 0 0, .slice none 0 0]) (vs := [.int .i64 rc, .int .i64 qid, .string qky, .bool qbk, .bool qot, .int .i64 qdu, .bool qdm, .string qmm, .string qhh, .string qpp, .slice ras rns rks, .slice was wns wks]) ?_ ?_ ?_ ?_ ?_ LZ.out LZf.out ?_
        · rfl
        · rfl
        · rfl
        · rfl
        · rfl
        refine hK _ _ (.inl rfl) ?_
        clear LZ LZf
        clear hK K
        try simp only [Act.put, List.setIfInBounds_toArray, List.set_cons_zero, List.set_cons_succ]
        refine butLast_end (by kernel_rfl) ?_
        have FIN := hidL (show Below w1.heap.size w1 (putAll us2 us0.heap.size 0 [.int .i64 rc, .int .i64 qid, .string qky, .bool qbk, .bool qot, .int .i64 qdu, .bool qdm, .string qmm, .string qhh, .string qpp, .slice ras rns rks, .slice was wns wks]) ∧ At us0.heap.size (us0.heap.size + 1) (Bx us0.heap.size [.int .i64 rc, .int .i64 qid, .string qky, .bool qbk, .bool qot, .int .i64 qdu, .bool qdm, .string qmm, .string qhh, .string qpp, .slice ras rns rks, .slice was wns wks]) (putAll us2 us0.heap.size 0 [.int .i64 rc, .int .i64 qid, .string qky, .bool qbk, .bool qot, .int .i64 qdu, .bool qdm, .string qmm, .string qhh, .string qpp, .slice ras rns rks, .slice was wns wks]) ∧ At us1.heap.size us2.heap.size (CR ras rns rks was wns wks) (putAll us2 us0.heap.size 0 [.int .i64 rc, .int .i64 qid, .string qky, .bool qbk, .bool qot, .int .i64 qdu, .bool qdm, .string qmm, .string qhh, .string qpp, .slice ras rns rks, .slice was wns wks]) ∧ (us0.heap.size < us1.heap.size ∨ us2.heap.size ≤ us0.heap.size) ∧ w1.heap.size ≤ us0.heap.size ∧ w1.heap.size ≤ us1.heap.size ∧ us1.heap.size ≤ us2.heap.size from ⟨below_putAll XZ.out [.int .i64 rc, .int .i64 qid, .string qky, .bool qbk, .bool qot, .int .i64 qdu, .bool qdm, .string qmm, .string qhh, .string qpp, .slice ras rns rks, .slice was wns wks] 0 B2b.out, Bx.putAll ZZ.out [.int .i64 rc, .int .i64 qid, .string qky, .bool qbk, .bool qot, .int .i64 qdu, .bool qdm, .string qmm, .string qhh, .string qpp, .slice ras rns rks, .slice was wns wks] rfl, At.putAll (.inl ZLT.out) [.int .i64 rc, .int .i64 qid, .string qky, .bool qbk, .bool qot, .int .i64 qdu, .bool qdm, .string qmm, .string qhh, .string qpp, .slice ras rns rks, .slice was wns wks] 0 CRf.out, (.inl ZLT.out), XZ.out, WX.out, SZ.out⟩)
        clear HKS KX
        go_wp2_with fail
        go_meet
        exact ⟨_, _, _, _, _, _, _, _, _, rfl, FIN.out⟩
    · go_simp
      have A0 : Hid (Below w1.heap.size w1 (w1.alloc (.cells #[.int .i64 0, .int .i64 0, .string ⟨#[]⟩, .bool false, .bool false, .int .i64 0, .bool false, .string ⟨#[]⟩, .string ⟨#[]⟩, .string ⟨#[]⟩, .slice none 0 0, .slice none 0 0] 88)).drew) := ((Below.refl _ _).alloc (Nat.le_refl _) _).drew
      have ZZ : Hid (At w1.heap.size (w1.heap.size + 1) (Bx w1.heap.size [.int .i64 0, .int .i64 0, .string ⟨#[]⟩, .bool false, .bool false, .int .i64 0, .bool false, .string ⟨#[]⟩, .string ⟨#[]⟩, .string ⟨#[]⟩, .slice none 0 0, .slice none 0 0]) (w1.alloc (.cells #[.int .i64 0, .int .i64 0, .string ⟨#[]⟩, .bool false, .bool false, .int .i64 0, .bool false, .string ⟨#[]⟩, .string ⟨#[]⟩, .string ⟨#[]⟩, .slice none 0 0, .slice none 0 0] 88)).drew) := (Bx.newAt rfl [.int .i64 0, .int .i64 0, .string ⟨#[]⟩, .bool false, .bool false, .int .i64 0, .bool false, .string ⟨#[]⟩, .string ⟨#[]⟩, .string ⟨#[]⟩, .slice none 0 0, .slice none 0 0] _).keep ((Below.refl _ _).drew)
      have XZ := hidL (Nat.le_refl w1.heap.size)
      refine hK _ _ (.inr (HKS.out _ A0.out)) ?_
      clear hK K
      try simp only [Act.put, List.setIfInBounds_toArray, List.set_cons_zero, List.set_cons_succ]
      refine butLast_one (i := 1) rfl (by kernel_rfl) (fun K hK => ?_)
      go_simp
      (with_reducible refine (HT1.out (w1.alloc (.cells #[.int .i64 0, .int .i64 0, .string ⟨#[]⟩, .bool false, .bool false, .int .i64 0, .bool false, .string ⟨#[]⟩, .string ⟨#[]⟩, .string ⟨#[]⟩, .slice none 0 0, .slice none 0 0] 88)).drew (KX.out _ A0.out)).mono ?_)
      rintro e0 us0 ⟨⟨K1sc, D1sc, rfl, ca⟩, hb⟩
      have B0b : Hid (Below w1.heap.size w1 us0) := A0.out.trans (hb.mono A0.out.size)
      have CC := hidL ca
      replace ZZ := hidL (ZZ.out.keep hb)
      clear hb ca
      refine hK _ _ (.inr (HKS.out _ B0b.out)) ?_
      clear hK K
      try simp only [Act.put, List.setIfInBounds_toArray, List.set_cons_zero, List.set_cons_succ]
      refine butLast_one (i := 3) rfl (by kernel_rfl) (fun K hK => ?_)
      go_simp
      (with_reducible refine (HP.out us0).mono ?_)
      rintro e0 us1 ⟨rfl, hb⟩
      have B1b : Hid (Below w1.heap.size w1 us1) := B0b.out.trans (hb.mono B0b.out.size)
      replace CC := hidL (CC.out.keep hb)
      replace ZZ := hidL (ZZ.out.keep hb)
      clear hb
      refine hK _ _ (.inr (HKS.out _ B1b.out)) ?_
      clear hK K
      try simp only [Act.put, List.setIfInBounds_toArray, List.set_cons_zero, List.set_cons_succ]
      refine butLast_one (i := 5) rfl (by kernel_rfl) (fun K hK => ?_)
      go_simp
      have WX := hidL (show w1.heap.size ≤ us1.heap.size from B1b.out.size)
      have ZLT := hidL (show w1.heap.size < us1.heap.size from ZZ.out.le)
      (with_reducible refine (HF.out us1 _ _ _ _ (KX.out _ B1b.out) CC.out).mono ?_)
      rintro e0 us2 ⟨⟨ras, rns, rks, was, wns, wks, rfl, cr⟩, hb⟩
      have B2b : Hid (Below w1.heap.size w1 us2) := B1b.out.trans (hb.mono B1b.out.size)
      have CRf := hidL cr
      have SZ := hidL (show us1.heap.size ≤ us2.heap.size from hb.size)
      replace ZZ := hidL (ZZ.out.keep hb)
      clear hb cr
      refine hK _ _ (.inr (HKS.out _ B2b.out)) ?_
      clear hK K
      try simp only [Act.put, List.setIfInBounds_toArray, List.set_cons_zero, List.set_cons_succ]
      refine butLast_one (i := 7) rfl (by kernel_rfl) (fun K hK => ?_)
      have LZ := hidL ZZ.out.val.1
      have LZf := hidL ZZ.out.val.2
      simp only [List.getElem_toArray, List.getElem_cons_succ, List.getElem_cons_zero]
      rw [if_pos (by simp [Region.wanted])]
      with_reducible refine flRNew_put (b := w1.heap.size) (zs := [.int .i64 0, .int .i64 0, .string ⟨#[]⟩, .bool false, .bool false, .int .i64 0, .bool false, .string ⟨#[]⟩, .string ⟨#[]⟩, .string ⟨#[]⟩, .slice none 0 0, .slice none 0 0]) (vs := [.int .i64 rc, .int .i64 qid, .string qky, .bool qbk, .bool qot, .int .i64 qdu, .bool qdm, .string qmm, .string qhh, .string qpp, .slice ras rns rks, .slice was wns wks]) ?_ ?_ ?_ ?_ ?_ LZ.out LZf.out ?_
      · rfl
      · rfl
      · rfl
      · rfl
      · rfl
      refine hK _ _ (.inl rfl) ?_
      clear LZ LZf
      clear hK K
      try simp only [Act.put, List.setIfInBounds_toArray, List.set_cons_zero, List.set_cons_succ]
      refine butLast_end (by kernel_rfl) ?_
      have FIN := hidL (show Below w1.heap.size w1 (putAll us2 w1.heap.size 0 [.int .i64 rc, .int .i64 qid, .string qky, .bool qbk, .bool qot, .int .i64 qdu, .bool qdm, .string qmm, .string qhh, .string qpp, .slice ras rns rks, .slice was wns wks]) ∧ At w1.heap.size (w1.heap.size + 1) (Bx w1.heap.size [.int .i64 rc, .int .i64 qid, .string qky, .bool qbk, .bool qot, .int .i64 qdu, .bool qdm, .string qmm, .string qhh, .string qpp, .slice ras rns rks, .slice was wns wks]) (putAll us2 w1.heap.size 0 [.int .i64 rc, .int .i64 qid, .string qky, .bool qbk, .bool qot, .int .i64 qdu, .bool qdm, .string qmm, .string qhh, .string qpp, .slice ras rns rks, .slice was wns wks]) ∧ At us1.heap.size us2.heap.size (CR ras rns rks was wns wks) (putAll us2 w1.heap.size 0 [.int .i64 rc, .int .i64 qid, .string qky, .bool qbk, .bool qot, .int .i64 qdu, .bool qdm, .string qmm, .string qhh, .string qpp, .slice ras rns rks, .slice was wns wks]) ∧ (w1.heap.size < us1.heap.size ∨ us2.heap.size ≤ w1.heap.size) ∧ w1.heap.size ≤ w1.heap.size ∧ w1.heap.size ≤ us1.heap.size ∧ us1.heap.size ≤ us2.heap.size from ⟨below_putAll XZ.out [.int .i64 rc, .int .i64 qid, .string qky, .bool qbk, .bool qot, .int .i64 qdu, .bool qdm, .string qmm, .string qhh, .string qpp, .slice ras rns rks, .slice was wns wks] 0 B2b.out, Bx.putAll ZZ.out [.int .i64 rc, .int .i64 qid, .string qky, .bool qbk, .bool qot, .int .i64 qdu, .bool qdm, .string qmm, .string qhh, .string qpp, .slice ras rns rks, .slice was wns wks] rfl, At.putAll (.inl ZLT.out) [.int .i64 rc, .int .i64 qid, .string qky, .bool qbk, .bool qot, .int .i64 qdu, .bool qdm, .string qmm, .string qhh, .string qpp, .slice ras rns rks, .slice was wns wks] 0 CRf.out, (.inl ZLT.out), XZ.out, WX.out, SZ.out⟩)
      clear HKS KX
      go_wp2_with fail
      go_meet
      exact ⟨_, _, _, _, _, _, _, _, _, rfl, FIN.out⟩
  case rest =>
  obtain ⟨Xs, lss, hss, ras, rns, rks, was, wns, wks, rfl, r1, r2, r3, r4, r5, r6, r7⟩ := hcut
  have O6 : Hid ((Xs < lss ∨ hss ≤ Xs) ∧ w.heap.size ≤ lss ∧ w.heap.size ≤ Xs ∧ lss ≤ hss ∧ (w.heap.size + 1) ≤ lss ∧ (w.heap.size + 1) ≤ Xs ∧ ((w.heap.size + 1) + 1) ≤ lss ∧ ((w.heap.size + 1) + 1) ≤ Xs) := ⟨r4, Nat.le_trans K2.out.size r6, Nat.le_trans K2.out.size r5, r7, Nat.le_trans F3.out.le r6, Nat.le_trans F3.out.le r5, Nat.le_trans F4.out.le r6, Nat.le_trans F4.out.le r5⟩
  have K7 : Hid (Below w.heap.size w wc) := K2.out.trans (r1.mono K2.out.size)
  have F8 : Hid (At w.heap.size (w.heap.size + 1) (Bx w.heap.size [.int .i64 fid, .string fky, .bool fbk, .bool fot, .int .i64 fdu, .bool fdm, .string fm, .string fh, .string fp, .slice fa fn fc, .slice ua un uc]) wc) := F3.out.keep r1
  have F9 : Hid (At (w.heap.size + 1) ((w.heap.size + 1) + 1) (Bx (w.heap.size + 1) [.int .i64 wrq, .bool whd, .int .i64 wdu, .bool wlt]) wc) := F4.out.keep r1
  clear K2 F3 F4
  have F10 : Hid (At lss hss (CR ras rns rks was wns wks) wc) := r3
  have F11 : Hid (At Xs (Xs + 1) (Bx Xs [.int .i64 rc, .int .i64 qid, .string qky, .bool qbk, .bool qot, .int .i64 qdu, .bool qdm, .string qmm, .string qhh, .string qpp, .slice ras rns rks, .slice was wns wks]) wc) := r2
  clear r1 r2 r3 r4 r5 r6 r7
  generalize wc = V5 at *
  clear HF
  have LF8 := hidL F8.out.val.1
  have LF11 := hidL F11.out.val.1
  go_wp2_with (first | ((with_reducible refine flL_load (b := w.heap.size) (vs := [.int .i64 fid, .string fky, .bool fbk, .bool fot, .int .i64 fdu, .bool fdm, .string fm, .string fh, .string fp, .slice fa fn fc, .slice ua un uc]) ?_ ?_ LF8.out ?_); exact rfl; exact rfl) | ((with_reducible refine flR_load (b := Xs) (vs := [.int .i64 rc, .int .i64 qid, .string qky, .bool qbk, .bool qot, .int .i64 qdu, .bool qdm, .string qmm, .string qhh, .string qpp, .slice ras rns rks, .slice was wns wks]) ?_ ?_ LF11.out ?_); exact rfl; exact rfl))
  clear LF8 LF11
  refine (HT1.out _ K7.out).mono ?_
  rintro e0 w12 ⟨⟨K1x1, D1x1, rfl, ca⟩, hb⟩
  obtain ⟨l13, hl13⟩ : ∃ n, V5.heap.size = n := ⟨_, rfl⟩
  obtain ⟨h14, hh14⟩ : ∃ n, w12.heap.size = n := ⟨_, rfl⟩
  have O15 : Hid ((w.heap.size + 1) ≤ l13 ∧ ((w.heap.size + 1) + 1) ≤ l13 ∧ hss ≤ l13 ∧ (Xs + 1) ≤ l13 ∧ w.heap.size ≤ l13 ∧ l13 ≤ h14) := ⟨(by rw [← hl13]; exact F8.out.le), (by rw [← hl13]; exact F9.out.le), (by rw [← hl13]; exact F10.out.le), (by rw [← hl13]; exact F11.out.le), (by rw [← hl13]; exact K7.out.size), (by rw [← hl13, ← hh14]; exact hb.size)⟩
  have F16 : Hid (At l13 h14 (CA1 K1x1 D1x1) w12) := by rw [← hl13, ← hh14]; exact ca
  clear ca hl13 hh14
  have K17 : Hid (Below w.heap.size w w12) := K7.out.trans (hb.mono K7.out.size)
  have F18 : Hid (At w.heap.size (w.heap.size + 1) (Bx w.heap.size [.int .i64 fid, .string fky, .bool fbk, .bool fot, .int .i64 fdu, .bool fdm, .string fm, .string fh, .string fp, .slice fa fn fc, .slice ua un uc]) w12) := F8.out.keep hb
  have F19 : Hid (At (w.heap.size + 1) ((w.heap.size + 1) + 1) (Bx (w.heap.size + 1) [.int .i64 wrq, .bool whd, .int .i64 wdu, .bool wlt]) w12) := F9.out.keep hb
  have F20 : Hid (At lss hss (CR ras rns rks was wns wks) w12) := F10.out.keep hb
  have F21 : Hid (At Xs (Xs + 1) (Bx Xs [.int .i64 rc, .int .i64 qid, .string qky, .bool qbk, .bool qot, .int .i64 qdu, .bool qdm, .string qmm, .string qhh, .string qpp, .slice ras rns rks, .slice was wns wks]) w12) := F11.out.keep hb
  clear K7 F8 F9 F10 F11 hb
  obtain ⟨V22, hV22⟩ : ∃ V, V = w12.alloc (.cells #[.int .i64 fid, .string fky, .bool fbk, .bool fot, .int .i64 fdu, .bool fdm, .string fm, .string fh, .string fp, .slice (some ⟨K1x1, 0, none⟩) fn fn, .slice (some ⟨D1x1, 0, none⟩) un un] 86) := ⟨_, rfl⟩
  have HV22 : Hid (V22 = w12.alloc (.cells #[.int .i64 fid, .string fky, .bool fbk, .bool fot, .int .i64 fdu, .bool fdm, .string fm, .string fh, .string fp, .slice (some ⟨K1x1, 0, none⟩) fn fn, .slice (some ⟨D1x1, 0, none⟩) un un] 86)) := hV22
  have ab : Below w12.heap.size w12 V22 := by rw [hV22]; exact (Below.refl _ _).alloc (Nat.le_refl _) _
  have F23 : Hid (At w12.heap.size (w12.heap.size + 1) (Bx w12.heap.size [.int .i64 fid, .string fky, .bool fbk, .bool fot, .int .i64 fdu, .bool fdm, .string fm, .string fh, .string fp, .slice (some ⟨K1x1, 0, none⟩) fn fn, .slice (some ⟨D1x1, 0, none⟩) un un]) V22) := by rw [hV22]; exact Bx.new _ _ _
  have O24 : Hid ((w.heap.size + 1) ≤ w12.heap.size ∧ ((w.heap.size + 1) + 1) ≤ w12.heap.size ∧ hss ≤ w12.heap.size ∧ (Xs + 1) ≤ w12.heap.size ∧ h14 ≤ w12.heap.size ∧ w.heap.size ≤ w12.heap.size) := ⟨F18.out.le, F19.out.le, F20.out.le, F21.out.le, F16.out.le, K17.out.size⟩
  have K25 : Hid (Below w.heap.size w V22) := K17.out.trans (ab.mono K17.out.size)
  have F26 : Hid (At w.heap.size (w.heap.size + 1) (Bx w.heap.size [.int .i64 fid, .string fky, .bool fbk, .bool fot, .int .i64 fdu, .bool fdm, .string fm, .string fh, .string fp, .slice fa fn fc, .slice ua un uc]) V22) := F18.out.keep ab
  have F27 : Hid (At (w.heap.size + 1) ((w.heap.size + 1) + 1) (Bx (w.heap.size + 1) [.int .i64 wrq, .bool whd, .int .i64 wdu, .bool wlt]) V22) := F19.out.keep ab
  have F28 : Hid (At lss hss (CR ras rns rks was wns wks) V22) := F20.out.keep ab
  have F29 : Hid (At Xs (Xs + 1) (Bx Xs [.int .i64 rc, .int .i64 qid, .string qky, .bool qbk, .bool qot, .int .i64 qdu, .bool qdm, .string qmm, .string qhh, .string qpp, .slice ras rns rks, .slice was wns wks]) V22) := F21.out.keep ab
  have F30 : Hid (At l13 h14 (CA1 K1x1 D1x1) V22) := F16.out.keep ab
  clear K17 F18 F19 F20 F21 F16
  clear ab hV22
  have LF26 := hidL F26.out.val.1
  have LF29 := hidL F29.out.val.1
  have LF23 := hidL F23.out.val.1
  go_upto_region 7 with (first | ((with_reducible refine flL_load (b := w.heap.size) (vs := [.int .i64 fid, .string fky, .bool fbk, .bool fot, .int .i64 fdu, .bool fdm, .string fm, .string fh, .string fp, .slice fa fn fc, .slice ua un uc]) ?_ ?_ LF26.out ?_); exact rfl; exact rfl) | ((with_reducible refine flR_load (b := Xs) (vs := [.int .i64 rc, .int .i64 qid, .string qky, .bool qbk, .bool qot, .int .i64 qdu, .bool qdm, .string qmm, .string qhh, .string qpp, .slice ras rns rks, .slice was wns wks]) ?_ ?_ LF29.out ?_); exact rfl; exact rfl) | ((with_reducible refine flI_load (b := w12.heap.size) (vs := [.int .i64 fid, .string fky, .bool fbk, .bool fot, .int .i64 fdu, .bool fdm, .string fm, .string fh, .string fp, .slice (some ⟨K1x1, 0, none⟩) fn fn, .slice (some ⟨D1x1, 0, none⟩) un un]) ?_ ?_ LF23.out ?_); exact rfl; exact rfl) | ((with_reducible refine flI_store (c' := #[.int .i64 fid, .string fky, .bool fbk, .bool fot, .int .i64 fdu, .bool fdm, .string fm, .string fh, .string fp, .slice (some ⟨K1x1, 0, none⟩) fn fn, .slice (some ⟨D1x1, 0, none⟩) un un]) ?_ ?_ ?_ ?_ ?_ ?_); exact rfl; exact rfl; exact rfl; exact rfl; exact rfl))
  clear LF26 LF29 LF23
  rw [← HV22.out]
  clear HV22
  generalize w12.heap.size = x31 at *
  simp only [Act.put]
  go_cut [10] from 28 to 32 (fun sx wx => ∃ (X0 ls hs : Nat) (rag : Option Addr) (rng : Nat) (rkg : Nat) (wag : Option Addr) (wng : Nat) (wkg : Nat), sx = .pointer (some ⟨X0, 0, none⟩) ∧ Below V22.heap.size V22 wx ∧ At X0 (X0 + 1) (Bx X0 [.int .i64 rc, .int .i64 qid, .string qky, .bool qbk, .bool qot, .int .i64 qdu, .bool qdm, .string qmm, .string qhh, .string qpp, .slice rag rng rkg, .slice wag wng wkg]) wx ∧ At ls hs (CR rag rng rkg wag wng wkg) wx ∧ (X0 < ls ∨ hs ≤ X0) ∧ V22.heap.size ≤ X0 ∧ V22.heap.size ≤ ls ∧ ls ≤ hs)
  case first =>
    have HKS : Hid (∀ X, Below V22.heap.size V22 X → X.rangeAt x31 0 [.int .i64 fid, .string fky, .bool fbk, .bool fot, .int .i64 fdu, .bool fdm, .string fm, .string fh, .string fp, .slice (some ⟨K1x1, 0, none⟩) fn fn, .slice (some ⟨D1x1, 0, none⟩) un un] ∧ X.rangeAt (w.heap.size + 1) 0 [.int .i64 wrq, .bool whd, .int .i64 wdu, .bool wlt]) := fun X hX => ⟨range_of (F23.out.keep hX).val.1, range_of (F27.out.keep hX).val.1⟩
    have KX : Hid (∀ X, Below V22.heap.size V22 X → Below w.heap.size w X) := fun X hX => K25.out.trans (hX.mono K25.out.size)
    have KC : Hid (∀ X, Below V22.heap.size V22 X → At _ _ (CA1 K1x1 D1x1) X) := fun X hX => F30.out.keep hX
    have B0 : Hid (Below V22.heap.size V22 V22.drew) := (Below.refl _ _).drew
    have HS0 := HKS.out _ B0.out
    refine wp_region_last (fun X => X.rangeAt x31 0 [.int .i64 fid, .string fky, .bool fbk, .bool fot, .int .i64 fdu, .bool fdm, .string fm, .string fh, .string fp, .slice (some ⟨K1x1, 0, none⟩) fn fn, .slice (some ⟨D1x1, 0, none⟩) un un] ∧ X.rangeAt (w.heap.size + 1) 0 [.int .i64 wrq, .bool whd, .int .i64 wdu, .bool wlt]) 6 (by kernel_rfl) ?_
    refine butLast_take (i := 0) (oi := _) (v := .agg #[.int .i64 fid, .string fky, .bool fbk, .bool fot, .int .i64 fdu, .bool fdm, .string fm, .string fh, .string fp, .slice (some ⟨K1x1, 0, none⟩) fn fn, .slice (some ⟨D1x1, 0, none⟩) un un]) rfl (by kernel_rfl) (by kernel_rfl) (by kernel_rfl) (by kernel_rfl) (fun _ _ _ h => h) (yieldsIf_load_mid (by rfl) _ _ rfl (x31) 0 rfl _ _ (fun _ h => h.1) Tryz.underlying86 rfl flI_size) HS0 ?_
    try simp only [Act.put, List.setIfInBounds_toArray, List.set_cons_zero, List.set_cons_succ]
    refine butLast_take (i := 1) (oi := _) (v := .agg #[.int .i64 wrq, .bool whd, .int .i64 wdu, .bool wlt]) rfl (by kernel_rfl) (by kernel_rfl) (by kernel_rfl) (by kernel_rfl) (fun _ _ _ h => h) (yieldsIf_load_mid (by rfl) _ _ rfl ((w.heap.size + 1)) 0 rfl _ _ (fun _ h => h.2) Tryz.underlying79 rfl wrL_size) HS0 ?_
    try simp only [Act.put, List.setIfInBounds_toArray, List.set_cons_zero, List.set_cons_succ]
    refine butLast_take (i := 3) (oi := _) (v := .int .i64 room) rfl (by kernel_rfl) (by kernel_rfl) (by kernel_rfl) (by kernel_rfl) (fun _ _ _ h => h) (Or.inl ⟨by kernel_rfl, ?_⟩) HS0 ?_
    · rintro X ⟨s1, s2⟩
      go_simp
    try simp only [Act.put, List.setIfInBounds_toArray, List.set_cons_zero, List.set_cons_succ]
    clear HS0
    refine butLast_2 (i := 2) (j := 5) rfl rfl (by kernel_rfl) (fun K hK => ?_) (fun K hK => ?_)
    · go_simp
      (with_reducible refine (HP.out V22.drew).mono ?_)
      rintro e0 ug0 ⟨rfl, hb⟩
      have B0a : Hid (Below V22.heap.size V22 ug0) := B0.out.trans (hb.mono B0.out.size)
      clear hb
      refine hK _ _ (.inr (HKS.out _ B0a.out)) ?_
      clear hK K
      try simp only [Act.put, List.setIfInBounds_toArray, List.set_cons_zero, List.set_cons_succ]
      refine butLast_2 (i := 4) (j := 5) rfl rfl (by kernel_rfl) (fun K hK => ?_) (fun K hK => ?_)
      · go_simp
        have WX := hidL (show V22.heap.size ≤ ug0.heap.size from B0a.out.size)
        (with_reducible refine (HG.out ug0 _ _ _ _ (KX.out _ B0a.out) (KC.out _ B0a.out)).mono ?_)
        rintro e0 ug1 ⟨⟨rag, rng, rkg, wag, wng, wkg, rfl, cr⟩, hb⟩
        have B1a : Hid (Below V22.heap.size V22 ug1) := B0a.out.trans (hb.mono B0a.out.size)
        have CRf := hidL cr
        have SZ := hidL (show ug0.heap.size ≤ ug1.heap.size from hb.size)
        clear hb cr
        refine hK _ _ (.inr (HKS.out _ B1a.out)) ?_
        clear hK K
        try simp only [Act.put, List.setIfInBounds_toArray, List.set_cons_zero, List.set_cons_succ]
        refine butLast_one (i := 5) rfl (by kernel_rfl) (fun K hK => ?_)
        go_simp
        have A2 : Hid (Below V22.heap.size V22 (ug1.alloc (.cells #[.int .i64 0, .int .i64 0, .string ⟨#[]⟩, .bool false, .bool false, .int .i64 0, .bool false, .string ⟨#[]⟩, .string ⟨#[]⟩, .string ⟨#[]⟩, .slice none 0 0, .slice none 0 0] 88))) := B1a.out.alloc B1a.out.size _
        have ZZ : Hid (At ug1.heap.size (ug1.heap.size + 1) (Bx ug1.heap.size [.int .i64 0, .int .i64 0, .string ⟨#[]⟩, .bool false, .bool false, .int .i64 0, .bool false, .string ⟨#[]⟩, .string ⟨#[]⟩, .string ⟨#[]⟩, .slice none 0 0, .slice none 0 0]) (ug1.alloc (.cells #[.int .i64 0, .int .i64 0, .string ⟨#[]⟩, .bool false, .bool false, .int .i64 0, .bool false, .string ⟨#[]⟩, .string ⟨#[]⟩, .string ⟨#[]⟩, .slice none 0 0, .slice none 0 0] 88))) := Bx.newAt rfl [.int .i64 0, .int .i64 0, .string ⟨#[]⟩, .bool false, .bool false, .int .i64 0, .bool false, .string ⟨#[]⟩, .string ⟨#[]⟩, .string ⟨#[]⟩, .slice none 0 0, .slice none 0 0] _
        have XZ := hidL (show V22.heap.size ≤ ug1.heap.size from B1a.out.size)
        replace CRf := hidL (CRf.out.al (.cells #[.int .i64 0, .int .i64 0, .string ⟨#[]⟩, .bool false, .bool false, .int .i64 0, .bool false, .string ⟨#[]⟩, .string ⟨#[]⟩, .string ⟨#[]⟩, .slice none 0 0, .slice none 0 0] 88))
        refine hK _ _ (.inr (HKS.out _ A2.out)) ?_
        clear hK K
        try simp only [Act.put, List.setIfInBounds_toArray, List.set_cons_zero, List.set_cons_succ]
        refine butLast_one (i := 6) rfl (by kernel_rfl) (fun K hK => ?_)
        have LZ := hidL ZZ.out.val.1
        have LZf := hidL ZZ.out.val.2
        simp only [List.getElem_toArray, List.getElem_cons_succ, List.getElem_cons_zero]
        rw [if_pos (by simp [Region.wanted])]
        with_reducible refine flRNew_put (b := ug1.heap.size) (zs := [.int .i64 0, .int .i64 0, .string ⟨#[]⟩, .bool false, .bool false, .int .i64 0, .bool false, .string ⟨#[]⟩, .string ⟨#[]⟩, .string ⟨#[]⟩, .slice none 0 0, .slice none 0 0]) (vs := [.int .i64 rc, .int .i64 qid, .string qky, .bool qbk, .bool qot, .int .i64 qdu, .bool qdm, .string qmm, .string qhh, .string qpp, .slice rag rng rkg, .slice wag wng wkg]) ?_ ?_ ?_ ?_ ?_ LZ.out LZf.out ?_
        · rfl
        · rfl
        · rfl
        · rfl
        · rfl
        refine hK _ _ (.inl rfl) ?_
        clear LZ LZf
        clear hK K
        try simp only [Act.put, List.setIfInBounds_toArray, List.set_cons_zero, List.set_cons_succ]
        refine butLast_end (by kernel_rfl) ?_
        have FIN := hidL (show Below V22.heap.size V22 (putAll (ug1.alloc (.cells #[.int .i64 0, .int .i64 0, .string ⟨#[]⟩, .bool false, .bool false, .int .i64 0, .bool false, .string ⟨#[]⟩, .string ⟨#[]⟩, .string ⟨#[]⟩, .slice none 0 0, .slice none 0 0] 88)) ug1.heap.size 0 [.int .i64 rc, .int .i64 qid, .string qky, .bool qbk, .bool qot, .int .i64 qdu, .bool qdm, .string qmm, .string qhh, .string qpp, .slice rag rng rkg, .slice wag wng wkg]) ∧ At ug1.heap.size (ug1.heap.size + 1) (Bx ug1.heap.size [.int .i64 rc, .int .i64 qid, .string qky, .bool qbk, .bool qot, .int .i64 qdu, .bool qdm, .string qmm, .string qhh, .string qpp, .slice rag rng rkg, .slice wag wng wkg]) (putAll (ug1.alloc (.cells #[.int .i64 0, .int .i64 0, .string ⟨#[]⟩, .bool false, .bool false, .int .i64 0, .bool false, .string ⟨#[]⟩, .string ⟨#[]⟩, .string ⟨#[]⟩, .slice none 0 0, .slice none 0 0] 88)) ug1.heap.size 0 [.int .i64 rc, .int .i64 qid, .string qky, .bool qbk, .bool qot, .int .i64 qdu, .bool qdm, .string qmm, .string qhh, .string qpp, .slice rag rng rkg, .slice wag wng wkg]) ∧ At ug0.heap.size ug1.heap.size (CR rag rng rkg wag wng wkg) (putAll (ug1.alloc (.cells #[.int .i64 0, .int .i64 0, .string ⟨#[]⟩, .bool false, .bool false, .int .i64 0, .bool false, .string ⟨#[]⟩, .string ⟨#[]⟩, .string ⟨#[]⟩, .slice none 0 0, .slice none 0 0] 88)) ug1.heap.size 0 [.int .i64 rc, .int .i64 qid, .string qky, .bool qbk, .bool qot, .int .i64 qdu, .bool qdm, .string qmm, .string qhh, .string qpp, .slice rag rng rkg, .slice wag wng wkg]) ∧ (ug1.heap.size < ug0.heap.size ∨ ug1.heap.size ≤ ug1.heap.size) ∧ V22.heap.size ≤ ug1.heap.size ∧ V22.heap.size ≤ ug0.heap.size ∧ ug0.heap.size ≤ ug1.heap.size from ⟨below_putAll XZ.out [.int .i64 rc, .int .i64 qid, .string qky, .bool qbk, .bool qot, .int .i64 qdu, .bool qdm, .string qmm, .string qhh, .string qpp, .slice rag rng rkg, .slice wag wng wkg] 0 A2.out, Bx.putAll ZZ.out [.int .i64 rc, .int .i64 qid, .string qky, .bool qbk, .bool qot, .int .i64 qdu, .bool qdm, .string qmm, .string qhh, .string qpp, .slice rag rng rkg, .slice wag wng wkg] rfl, At.putAll (.inr (Nat.le_refl _)) [.int .i64 rc, .int .i64 qid, .string qky, .bool qbk, .bool qot, .int .i64 qdu, .bool qdm, .string qmm, .string qhh, .string qpp, .slice rag rng rkg, .slice wag wng wkg] 0 CRf.out, (.inr (Nat.le_refl _)), XZ.out, WX.out, SZ.out⟩)
        clear HKS KX
        go_wp2_with fail
        go_meet
        exact ⟨_, _, _, _, _, _, _, _, _, rfl, FIN.out⟩
      · go_simp
        have A1 : Hid (Below V22.heap.size V22 (ug0.alloc (.cells #[.int .i64 0, .int .i64 0, .string ⟨#[]⟩, .bool false, .bool false, .int .i64 0, .bool false, .string ⟨#[]⟩, .string ⟨#[]⟩, .string ⟨#[]⟩, .slice none 0 0, .slice none 0 0] 88))) := B0a.out.alloc B0a.out.size _
        have ZZ : Hid (At ug0.heap.size (ug0.heap.size + 1) (Bx ug0.heap.size [.int .i64 0, .int .i64 0, .string ⟨#[]⟩, .bool false, .bool false, .int .i64 0, .bool false, .string ⟨#[]⟩, .string ⟨#[]⟩, .string ⟨#[]⟩, .slice none 0 0, .slice none 0 0]) (ug0.alloc (.cells #[.int .i64 0, .int .i64 0, .string ⟨#[]⟩, .bool false, .bool false, .int .i64 0, .bool false, .string ⟨#[]⟩, .string ⟨#[]⟩, .string ⟨#[]⟩, .slice none 0 0, .slice none 0 0] 88))) := Bx.newAt rfl [.int .i64 0, .int .i64 0, .string ⟨#[]⟩, .bool false, .bool false, .int .i64 0, .bool false, .string ⟨#[]⟩, .string ⟨#[]⟩, .string ⟨#[]⟩, .slice none 0 0, .slice none 0 0] _
        have XZ := hidL (show V22.heap.size ≤ ug0.heap.size from B0a.out.size)
        refine hK _ _ (.inr (HKS.out _ A1.out)) ?_
        clear hK K
        try simp only [Act.put, List.setIfInBounds_toArray, List.set_cons_zero, List.set_cons_succ]
        refine butLast_one (i := 4) rfl (by kernel_rfl) (fun K hK => ?_)
        go_simp
        have WX := hidL (show V22.heap.size ≤ (ug0.alloc (.cells #[.int .i64 0, .int .i64 0, .string ⟨#[]⟩, .bool false, .bool false, .int .i64 0, .bool false, .string ⟨#[]⟩, .string ⟨#[]⟩, .string ⟨#[]⟩, .slice none 0 0, .slice none 0 0] 88)).heap.size from A1.out.size)
        have ZLT := hidL (show ug0.heap.size < (ug0.alloc (.cells #[.int .i64 0, .int .i64 0, .string ⟨#[]⟩, .bool false, .bool false, .int .i64 0, .bool false, .string ⟨#[]⟩, .string ⟨#[]⟩, .string ⟨#[]⟩, .slice none 0 0, .slice none 0 0] 88)).heap.size from ZZ.out.le)
        (with_reducible refine (HG.out (ug0.alloc (.cells #[.int .i64 0, .int .i64 0, .string ⟨#[]⟩, .bool false, .bool false, .int .i64 0, .bool false, .string ⟨#[]⟩, .string ⟨#[]⟩, .string ⟨#[]⟩, .slice none 0 0, .slice none 0 0] 88)) _ _ _ _ (KX.out _ A1.out) (KC.out _ A1.out)).mono ?_)
        rintro e0 ug1 ⟨⟨rag, rng, rkg, wag, wng, wkg, rfl, cr⟩, hb⟩
        have B1b : Hid (Below V22.heap.size V22 ug1) := A1.out.trans (hb.mono A1.out.size)
        have CRf := hidL cr
        have SZ := hidL (show (ug0.alloc (.cells #[.int .i64 0, .int .i64 0, .string ⟨#[]⟩, .bool false, .bool false, .int .i64 0, .bool false, .string ⟨#[]⟩, .string ⟨#[]⟩, .string ⟨#[]⟩, .slice none 0 0, .slice none 0 0] 88)).heap.size ≤ ug1.heap.size from hb.size)
        replace ZZ := hidL (ZZ.out.keep hb)
        clear hb cr
        refine hK _ _ (.inr (HKS.out _ B1b.out)) ?_
        clear hK K
        try simp only [Act.put, List.setIfInBounds_toArray, List.set_cons_zero, List.set_cons_succ]
        refine butLast_one (i := 6) rfl (by kernel_rfl) (fun K hK => ?_)
        have LZ := hidL ZZ.out.val.1
        have LZf := hidL ZZ.out.val.2
        simp only [List.getElem_toArray, List.getElem_cons_succ, List.getElem_cons_zero]
        rw [if_pos (by simp [Region.wanted])]
        with_reducible refine flRNew_put (b := ug0.heap.size) (zs := [.int .i64 0, .int .i64 0, .string ⟨#[]⟩, .bool false, .bool false, .int .i64 0, .bool false, .string ⟨#[]⟩, .string ⟨#[]⟩, .string ⟨#[]⟩, .slice none 0 0, .slice none 0 0]) (vs := [.int .i64 rc, .int .i64 qid, .string qky, .bool qbk, .bool qot, .int .i64 qdu, .bool qdm, .string qmm, .string qhh, .string qpp, .slice rag rng rkg, .slice wag wng wkg]) ?_ ?_ ?_ ?_ ?_ LZ.out LZf.out ?_
        · rfl
        · rfl
        · rfl
        · rfl
        · rfl
        refine hK _ _ (.inl rfl) ?_
        clear LZ LZf
        clear hK K
        try simp only [Act.put, List.setIfInBounds_toArray, List.set_cons_zero, List.set_cons_succ]
        refine butLast_end (by kernel_rfl) ?_
        have FIN := hidL (show Below V22.heap.size V22 (putAll ug1 ug0.heap.size 0 [.int .i64 rc, .int .i64 qid, .string qky, .bool qbk, .bool qot, .int .i64 qdu, .bool qdm, .string qmm, .string qhh, .string qpp, .slice rag rng rkg, .slice wag wng wkg]) ∧ At ug0.heap.size (ug0.heap.size + 1) (Bx ug0.heap.size [.int .i64 rc, .int .i64 qid, .string qky, .bool qbk, .bool qot, .int .i64 qdu, .bool qdm, .string qmm, .string qhh, .string qpp, .slice rag rng rkg, .slice wag wng wkg]) (putAll ug1 ug0.heap.size 0 [.int .i64 rc, .int .i64 qid, .string qky, .bool qbk, .bool qot, .int .i64 qdu, .bool qdm, .string qmm, .string qhh, .string qpp, .slice rag rng rkg, .slice wag wng wkg]) ∧ At (ug0.alloc (.cells #[.int .i64 0, .int .i64 0, .string ⟨#[]⟩, .bool false, .bool false, .int .i64 0, .bool false, .string ⟨#[]⟩, .string ⟨#[]⟩, .string ⟨#[]⟩, .slice none 0 0, .slice none 0 0] 88)).heap.size ug1.heap.size (CR rag rng rkg wag wng wkg) (putAll ug1 ug0.heap.size 0 [.int .i64 rc, .int .i64 qid, .string qky, .bool qbk, .bool qot, .int .i64 qdu, .bool qdm, .string qmm, .string qhh, .string qpp, .slice rag rng rkg, .slice wag wng wkg]) ∧ (ug0.heap.size < (ug0.alloc (.cells #[.int .i64 0, .int .i64 0, .string ⟨#[]⟩, .bool false, .bool false, .int .i64 0, .bool false, .string ⟨#[]⟩, .string ⟨#[]⟩, .string ⟨#[]⟩, .slice none 0 0, .slice none 0 0] 88)).heap.size ∨ ug1.heap.size ≤ ug0.heap.size) ∧ V22.heap.size ≤ ug0.heap.size ∧ V22.heap.size ≤ (ug0.alloc (.cells #[.int .i64 0, .int .i64 0, .string ⟨#[]⟩, .bool false, .bool false, .int .i64 0, .bool false, .string ⟨#[]⟩, .string ⟨#[]⟩, .string ⟨#[]⟩, .slice none 0 0, .slice none 0 0] 88)).heap.size ∧ (ug0.alloc (.cells #[.int .i64 0, .int .i64 0, .string ⟨#[]⟩, .bool false, .bool false, .int .i64 0, .bool false, .string ⟨#[]⟩, .string ⟨#[]⟩, .string ⟨#[]⟩, .slice none 0 0, .slice none 0 0] 88)).heap.size ≤ ug1.heap.size from ⟨below_putAll XZ.out [.int .i64 rc, .int .i64 qid, .string qky, .bool qbk, .bool qot, .int .i64 qdu, .bool qdm, .string qmm, .string qhh, .string qpp, .slice rag rng rkg, .slice wag wng wkg] 0 B1b.out, Bx.putAll ZZ.out [.int .i64 rc, .int .i64 qid, .string qky, .bool qbk, .bool qot, .int .i64 qdu, .bool qdm, .string qmm, .string qhh, .string qpp, .slice rag rng rkg, .slice wag wng wkg] rfl, At.putAll (.inl ZLT.out) [.int .i64 rc, .int .i64 qid, .string qky, .bool qbk, .bool qot, .int .i64 qdu, .bool qdm, .string qmm, .string qhh, .string qpp, .slice rag rng rkg, .slice wag wng wkg] 0 CRf.out, (.inl ZLT.out), XZ.out, WX.out, SZ.out⟩)
        clear HKS KX
        go_wp2_with fail
        go_meet
        exact ⟨_, _, _, _, _, _, _, _, _, rfl, FIN.out⟩
    · go_simp
      have A0 : Hid (Below V22.heap.size V22 (V22.alloc (.cells #[.int .i64 0, .int .i64 0, .string ⟨#[]⟩, .bool false, .bool false, .int .i64 0, .bool false, .string ⟨#[]⟩, .string ⟨#[]⟩, .string ⟨#[]⟩, .slice none 0 0, .slice none 0 0] 88)).drew) := ((Below.refl _ _).alloc (Nat.le_refl _) _).drew
      have ZZ : Hid (At V22.heap.size (V22.heap.size + 1) (Bx V22.heap.size [.int .i64 0, .int .i64 0, .string ⟨#[]⟩, .bool false, .bool false, .int .i64 0, .bool false, .string ⟨#[]⟩, .string ⟨#[]⟩, .string ⟨#[]⟩, .slice none 0 0, .slice none 0 0]) (V22.alloc (.cells #[.int .i64 0, .int .i64 0, .string ⟨#[]⟩, .bool false, .bool false, .int .i64 0, .bool false, .string ⟨#[]⟩, .string ⟨#[]⟩, .string ⟨#[]⟩, .slice none 0 0, .slice none 0 0] 88)).drew) := (Bx.newAt rfl [.int .i64 0, .int .i64 0, .string ⟨#[]⟩, .bool false, .bool false, .int .i64 0, .bool false, .string ⟨#[]⟩, .string ⟨#[]⟩, .string ⟨#[]⟩, .slice none 0 0, .slice none 0 0] _).keep ((Below.refl _ _).drew)
      have XZ := hidL (Nat.le_refl V22.heap.size)
      refine hK _ _ (.inr (HKS.out _ A0.out)) ?_
      clear hK K
      try simp only [Act.put, List.setIfInBounds_toArray, List.set_cons_zero, List.set_cons_succ]
      refine butLast_one (i := 2) rfl (by kernel_rfl) (fun K hK => ?_)
      go_simp
      (with_reducible refine (HP.out (V22.alloc (.cells #[.int .i64 0, .int .i64 0, .string ⟨#[]⟩, .bool false, .bool false, .int .i64 0, .bool false, .string ⟨#[]⟩, .string ⟨#[]⟩, .string ⟨#[]⟩, .slice none 0 0, .slice none 0 0] 88)).drew).mono ?_)
      rintro e0 ug0 ⟨rfl, hb⟩
      have B0b : Hid (Below V22.heap.size V22 ug0) := A0.out.trans (hb.mono A0.out.size)
      replace ZZ := hidL (ZZ.out.keep hb)
      clear hb
      refine hK _ _ (.inr (HKS.out _ B0b.out)) ?_
      clear hK K
      try simp only [Act.put, List.setIfInBounds_toArray, List.set_cons_zero, List.set_cons_succ]
      refine butLast_one (i := 4) rfl (by kernel_rfl) (fun K hK => ?_)
      go_simp
      have WX := hidL (show V22.heap.size ≤ ug0.heap.size from B0b.out.size)
      have ZLT := hidL (show V22.heap.size < ug0.heap.size from ZZ.out.le)
      (with_reducible refine (HG.out ug0 _ _ _ _ (KX.out _ B0b.out) (KC.out _ B0b.out)).mono ?_)
      rintro e0 ug1 ⟨⟨rag, rng, rkg, wag, wng, wkg, rfl, cr⟩, hb⟩
      have B1b : Hid (Below V22.heap.size V22 ug1) := B0b.out.trans (hb.mono B0b.out.size)
      have CRf := hidL cr
      have SZ := hidL (show ug0.heap.size ≤ ug1.heap.size from hb.size)
      replace ZZ := hidL (ZZ.out.keep hb)
      clear hb cr
      refine hK _ _ (.inr (HKS.out _ B1b.out)) ?_
      clear hK K
      try simp only [Act.put, List.setIfInBounds_toArray, List.set_cons_zero, List.set_cons_succ]
      refine butLast_one (i := 6) rfl (by kernel_rfl) (fun K hK => ?_)
      have LZ := hidL ZZ.out.val.1
      have LZf := hidL ZZ.out.val.2
      simp only [List.getElem_toArray, List.getElem_cons_succ, List.getElem_cons_zero]
      rw [if_pos (by simp [Region.wanted])]
      with_reducible refine flRNew_put (b := V22.heap.size) (zs := [.int .i64 0, .int .i64 0, .string ⟨#[]⟩, .bool false, .bool false, .int .i64 0, .bool false, .string ⟨#[]⟩, .string ⟨#[]⟩, .string ⟨#[]⟩, .slice none 0 0, .slice none 0 0]) (vs := [.int .i64 rc, .int .i64 qid, .string qky, .bool qbk, .bool qot, .int .i64 qdu, .bool qdm, .string qmm, .string qhh, .string qpp, .slice rag rng rkg, .slice wag wng wkg]) ?_ ?_ ?_ ?_ ?_ LZ.out LZf.out ?_
      · rfl
      · rfl
      · rfl
      · rfl
      · rfl
      refine hK _ _ (.inl rfl) ?_
      clear LZ LZf
      clear hK K
      try simp only [Act.put, List.setIfInBounds_toArray, List.set_cons_zero, List.set_cons_succ]
      refine butLast_end (by kernel_rfl) ?_
      have FIN := hidL (show Below V22.heap.size V22 (putAll ug1 V22.heap.size 0 [.int .i64 rc, .int .i64 qid, .string qky, .bool qbk, .bool qot, .int .i64 qdu, .bool qdm, .string qmm, .string qhh, .string qpp, .slice rag rng rkg, .slice wag wng wkg]) ∧ At V22.heap.size (V22.heap.size + 1) (Bx V22.heap.size [.int .i64 rc, .int .i64 qid, .string qky, .bool qbk, .bool qot, .int .i64 qdu, .bool qdm, .string qmm, .string qhh, .string qpp, .slice rag rng rkg, .slice wag wng wkg]) (putAll ug1 V22.heap.size 0 [.int .i64 rc, .int .i64 qid, .string qky, .bool qbk, .bool qot, .int .i64 qdu, .bool qdm, .string qmm, .string qhh, .string qpp, .slice rag rng rkg, .slice wag wng wkg]) ∧ At ug0.heap.size ug1.heap.size (CR rag rng rkg wag wng wkg) (putAll ug1 V22.heap.size 0 [.int .i64 rc, .int .i64 qid, .string qky, .bool qbk, .bool qot, .int .i64 qdu, .bool qdm, .string qmm, .string qhh, .string qpp, .slice rag rng rkg, .slice wag wng wkg]) ∧ (V22.heap.size < ug0.heap.size ∨ ug1.heap.size ≤ V22.heap.size) ∧ V22.heap.size ≤ V22.heap.size ∧ V22.heap.size ≤ ug0.heap.size ∧ ug0.heap.size ≤ ug1.heap.size from ⟨below_putAll XZ.out [.int .i64 rc, .int .i64 qid, .string qky, .bool qbk, .bool qot, .int .i64 qdu, .bool qdm, .string qmm, .string qhh, .string qpp, .slice rag rng rkg, .slice wag wng wkg] 0 B1b.out, Bx.putAll ZZ.out [.int .i64 rc, .int .i64 qid, .string qky, .bool qbk, .bool qot, .int .i64 qdu, .bool qdm, .string qmm, .string qhh, .string qpp, .slice rag rng rkg, .slice wag wng wkg] rfl, At.putAll (.inl ZLT.out) [.int .i64 rc, .int .i64 qid, .string qky, .bool qbk, .bool qot, .int .i64 qdu, .bool qdm, .string qmm, .string qhh, .string qpp, .slice rag rng rkg, .slice wag wng wkg] 0 CRf.out, (.inl ZLT.out), XZ.out, WX.out, SZ.out⟩)
      clear HKS KX
      go_wp2_with fail
      go_meet
      exact ⟨_, _, _, _, _, _, _, _, _, rfl, FIN.out⟩
  case rest =>
  obtain ⟨Xg, lsg, hsg, rag, rng, rkg, wag, wng, wkg, rfl, r1, r2, r3, r4, r5, r6, r7⟩ := hcut
  have O33 : Hid ((Xg < lsg ∨ hsg ≤ Xg) ∧ w.heap.size ≤ lsg ∧ w.heap.size ≤ Xg ∧ lsg ≤ hsg ∧ (w.heap.size + 1) ≤ lsg ∧ (w.heap.size + 1) ≤ Xg ∧ ((w.heap.size + 1) + 1) ≤ lsg ∧ ((w.heap.size + 1) + 1) ≤ Xg ∧ hss ≤ lsg ∧ hss ≤ Xg ∧ (Xs + 1) ≤ lsg ∧ (Xs + 1) ≤ Xg ∧ h14 ≤ lsg ∧ h14 ≤ Xg ∧ (x31 + 1) ≤ lsg ∧ (x31 + 1) ≤ Xg) := ⟨r4, Nat.le_trans K25.out.size r6, Nat.le_trans K25.out.size r5, r7, Nat.le_trans F26.out.le r6, Nat.le_trans F26.out.le r5, Nat.le_trans F27.out.le r6, Nat.le_trans F27.out.le r5, Nat.le_trans F28.out.le r6, Nat.le_trans F28.out.le r5, Nat.le_trans F29.out.le r6, Nat.le_trans F29.out.le r5, Nat.le_trans F30.out.le r6, Nat.le_trans F30.out.le r5, Nat.le_trans F23.out.le r6, Nat.le_trans F23.out.le r5⟩
  have K34 : Hid (Below w.heap.size w wc) := K25.out.trans (r1.mono K25.out.size)
  have F35 : Hid (At w.heap.size (w.heap.size + 1) (Bx w.heap.size [.int .i64 fid, .string fky, .bool fbk, .bool fot, .int .i64 fdu, .bool fdm, .string fm, .string fh, .string fp, .slice fa fn fc, .slice ua un uc]) wc) := F26.out.keep r1
  have F36 : Hid (At (w.heap.size + 1) ((w.heap.size + 1) + 1) (Bx (w.heap.size + 1) [.int .i64 wrq, .bool whd, .int .i64 wdu, .bool wlt]) wc) := F27.out.keep r1
  have F37 : Hid (At lss hss (CR ras rns rks was wns wks) wc) := F28.out.keep r1
  have F38 : Hid (At Xs (Xs + 1) (Bx Xs [.int .i64 rc, .int .i64 qid, .string qky, .bool qbk, .bool qot, .int .i64 qdu, .bool qdm, .string qmm, .string qhh, .string qpp, .slice ras rns rks, .slice was wns wks]) wc) := F29.out.keep r1
  have F39 : Hid (At l13 h14 (CA1 K1x1 D1x1) wc) := F30.out.keep r1
  have F40 : Hid (At x31 (x31 + 1) (Bx x31 [.int .i64 fid, .string fky, .bool fbk, .bool fot, .int .i64 fdu, .bool fdm, .string fm, .string fh, .string fp, .slice (some ⟨K1x1, 0, none⟩) fn fn, .slice (some ⟨D1x1, 0, none⟩) un un]) wc) := F23.out.keep r1
  clear K25 F26 F27 F28 F29 F30 F23
  have F41 : Hid (At lsg hsg (CR rag rng rkg wag wng wkg) wc) := r3
  have F42 : Hid (At Xg (Xg + 1) (Bx Xg [.int .i64 rc, .int .i64 qid, .string qky, .bool qbk, .bool qot, .int .i64 qdu, .bool qdm, .string qmm, .string qhh, .string qpp, .slice rag rng rkg, .slice wag wng wkg]) wc) := r2
  clear r1 r2 r3 r4 r5 r6 r7
  generalize wc = V32 at *
  have LF35 := hidL F35.out.val.1
  have LF38 := hidL F38.out.val.1
  have LF40 := hidL F40.out.val.1
  have LF42 := hidL F42.out.val.1
  go_wp2_with (first | ((with_reducible refine flL_load (b := w.heap.size) (vs := [.int .i64 fid, .string fky, .bool fbk, .bool fot, .int .i64 fdu, .bool fdm, .string fm, .string fh, .string fp, .slice fa fn fc, .slice ua un uc]) ?_ ?_ LF35.out ?_); exact rfl; exact rfl) | ((with_reducible refine flR_load (b := Xs) (vs := [.int .i64 rc, .int .i64 qid, .string qky, .bool qbk, .bool qot, .int .i64 qdu, .bool qdm, .string qmm, .string qhh, .string qpp, .slice ras rns rks, .slice was wns wks]) ?_ ?_ LF38.out ?_); exact rfl; exact rfl) | ((with_reducible refine flI_load (b := x31) (vs := [.int .i64 fid, .string fky, .bool fbk, .bool fot, .int .i64 fdu, .bool fdm, .string fm, .string fh, .string fp, .slice (some ⟨K1x1, 0, none⟩) fn fn, .slice (some ⟨D1x1, 0, none⟩) un un]) ?_ ?_ LF40.out ?_); exact rfl; exact rfl) | ((with_reducible refine flR_load (b := Xg) (vs := [.int .i64 rc, .int .i64 qid, .string qky, .bool qbk, .bool qot, .int .i64 qdu, .bool qdm, .string qmm, .string qhh, .string qpp, .slice rag rng rkg, .slice wag wng wkg]) ?_ ?_ LF42.out ?_); exact rfl; exact rfl))
  clear LF35 LF38 LF40 LF42
  refine (HEQ.out _ _ _ _ _ _ _ _ _ _ _ _ _ _ _ _ _ F41.out F37.out).mono ?_
  rintro e0 w43 ⟨rfl, hb⟩
  have K44 : Hid (Below w.heap.size w w43) := K34.out.trans (hb.mono K34.out.size)
  have F45 : Hid (At w.heap.size (w.heap.size + 1) (Bx w.heap.size [.int .i64 fid, .string fky, .bool fbk, .bool fot, .int .i64 fdu, .bool fdm, .string fm, .string fh, .string fp, .slice fa fn fc, .slice ua un uc]) w43) := F35.out.keep hb
  have F46 : Hid (At (w.heap.size + 1) ((w.heap.size + 1) + 1) (Bx (w.heap.size + 1) [.int .i64 wrq, .bool whd, .int .i64 wdu, .bool wlt]) w43) := F36.out.keep hb
  have F47 : Hid (At lss hss (CR ras rns rks was wns wks) w43) := F37.out.keep hb
  have F48 : Hid (At Xs (Xs + 1) (Bx Xs [.int .i64 rc, .int .i64 qid, .string qky, .bool qbk, .bool qot, .int .i64 qdu, .bool qdm, .string qmm, .string qhh, .string qpp, .slice ras rns rks, .slice was wns wks]) w43) := F38.out.keep hb
  have F49 : Hid (At l13 h14 (CA1 K1x1 D1x1) w43) := F39.out.keep hb
  have F50 : Hid (At x31 (x31 + 1) (Bx x31 [.int .i64 fid, .string fky, .bool fbk, .bool fot, .int .i64 fdu, .bool fdm, .string fm, .string fh, .string fp, .slice (some ⟨K1x1, 0, none⟩) fn fn, .slice (some ⟨D1x1, 0, none⟩) un un]) w43) := F40.out.keep hb
  have F51 : Hid (At lsg hsg (CR rag rng rkg wag wng wkg) w43) := F41.out.keep hb
  have F52 : Hid (At Xg (Xg + 1) (Bx Xg [.int .i64 rc, .int .i64 qid, .string qky, .bool qbk, .bool qot, .int .i64 qdu, .bool qdm, .string qmm, .string qhh, .string qpp, .slice rag rng rkg, .slice wag wng wkg]) w43) := F42.out.keep hb
  clear K34 F35 F36 F37 F38 F39 F40 F41 F42 hb
  have HKS : Hid (∀ X, Below w43.heap.size w43 X → X.rangeAt w.heap.size 0 [.int .i64 fid, .string fky, .bool fbk, .bool fot, .int .i64 fdu, .bool fdm, .string fm, .string fh, .string fp, .slice fa fn fc, .slice ua un uc] ∧ X.rangeAt x31 0 [.int .i64 fid, .string fky, .bool fbk, .bool fot, .int .i64 fdu, .bool fdm, .string fm, .string fh, .string fp, .slice (some ⟨K1x1, 0, none⟩) fn fn, .slice (some ⟨D1x1, 0, none⟩) un un]) := fun X hX => ⟨range_of (F45.out.keep hX).val.1, range_of (F50.out.keep hX).val.1⟩
  have B0 : Hid (Below w43.heap.size w43 w43.drew) := (Below.refl _ _).drew
  have KB0 : Hid (Below w.heap.size w w43.drew) := K44.out.trans (B0.out.mono K44.out.size)
  go_upto_region 10 with fail
  refine wp_region_held_drew (S := fun X => X.rangeAt w.heap.size 0 [.int .i64 fid, .string fky, .bool fbk, .bool fot, .int .i64 fdu, .bool fdm, .string fm, .string fh, .string fp, .slice fa fn fc, .slice ua un uc] ∧ X.rangeAt x31 0 [.int .i64 fid, .string fky, .bool fbk, .bool fot, .int .i64 fdu, .bool fdm, .string fm, .string fh, .string fp, .slice (some ⟨K1x1, 0, none⟩) fn fn, .slice (some ⟨D1x1, 0, none⟩) un un]) (by kernel_rfl) ?_ (fun hHeld => ?_)
  · exact HKS.out _ B0.out
  refine' wpAnyH_take (i := 0) (oi := _) (v := _) rfl (by kernel_rfl) (by kernel_rfl) (by kernel_rfl) (fun _ _ _ h => h) (yieldsIf_load_mid (by rfl) _ _ rfl (x31) 0 rfl _ _ (fun _ h => h.2) Tryz.underlying86 rfl flI_size) hHeld ?_
  (try simp only [Act.put, List.setIfInBounds_toArray, List.set_cons_zero, List.set_cons_succ])
  refine' wpAnyH_take (i := 1) (oi := _) (v := _) rfl (by kernel_rfl) (by kernel_rfl) (by kernel_rfl) (fun _ _ _ h => h) (yieldsIf_load_mid (by rfl) _ _ rfl (w.heap.size) 0 rfl _ _ (fun _ h => h.1) Tryz.underlying77 rfl flL_size) hHeld ?_
  (try simp only [Act.put, List.setIfInBounds_toArray, List.set_cons_zero, List.set_cons_succ])
  refine wpAnyH_ready (rs := [2]) (by kernel_rfl) (by simp) ?_
  refine AllReadyH.cons (o := _) rfl (fun K hK => ?_) AllReadyH.nil
  go_simp
  (with_reducible refine (HT1.out w43.drew KB0.out).mono ?_)
  rintro e0 w53 ⟨⟨K1t, D1t, rfl, ca⟩, hb⟩
  have BA : Hid (Below w43.heap.size w43 w53) := B0.out.trans (hb.mono B0.out.size)
  have MA := hidL ca
  clear ca hb
  go_wp2_with fail
  refine hK.out _ _ ?_ (fun hHeld => ?_)
  · exact HKS.out _ BA.out
  clear hK
  (try simp only [Act.put, List.setIfInBounds_toArray, List.set_cons_zero, List.set_cons_succ])
  refine wpAnyH_ready (rs := [3]) (by kernel_rfl) (by simp) ?_
  refine AllReadyH.cons (o := _) rfl (fun K hK => ?_) AllReadyH.nil
  go_simp
  (with_reducible refine (HQ1.out w53 _ _ _ _ _ _ _ _ (F49.out.keep BA.out) MA.out).mono ?_)
  rintro e0 w54 ⟨rfl, hb⟩
  have BB : Hid (Below w43.heap.size w43 w54) := BA.out.trans (hb.mono BA.out.size)
  clear hb
  go_wp2_with fail
  refine hK.out _ _ ?_ (fun hHeld => ?_)
  · exact HKS.out _ BB.out
  clear hK
  (try simp only [Act.put, List.setIfInBounds_toArray, List.set_cons_zero, List.set_cons_succ])
  refine wpAnyH_ready (rs := [4]) (by kernel_rfl) (by simp) ?_
  refine AllReadyH.cons (o := _) rfl (fun K hK => ?_) AllReadyH.nil
  go_simp
  refine hK.out _ _ ?_ (fun hHeld => ?_)
  · exact HKS.out _ BB.out
  clear hK
  (try simp only [Act.put, List.setIfInBounds_toArray, List.set_cons_zero, List.set_cons_succ])
  refine wpAnyH_done (by kernel_rfl) ?_ _
  clear hHeld
  have K55 : Hid (Below w.heap.size w w54) := K44.out.trans (BB.out.mono K44.out.size)
  have F56 : Hid (At w.heap.size (w.heap.size + 1) (Bx w.heap.size [.int .i64 fid, .string fky, .bool fbk, .bool fot, .int .i64 fdu, .bool fdm, .string fm, .string fh, .string fp, .slice fa fn fc, .slice ua un uc]) w54) := F45.out.keep BB.out
  have F57 : Hid (At (w.heap.size + 1) ((w.heap.size + 1) + 1) (Bx (w.heap.size + 1) [.int .i64 wrq, .bool whd, .int .i64 wdu, .bool wlt]) w54) := F46.out.keep BB.out
  have F58 : Hid (At lss hss (CR ras rns rks was wns wks) w54) := F47.out.keep BB.out
  have F59 : Hid (At Xs (Xs + 1) (Bx Xs [.int .i64 rc, .int .i64 qid, .string qky, .bool qbk, .bool qot, .int .i64 qdu, .bool qdm, .string qmm, .string qhh, .string qpp, .slice ras rns rks, .slice was wns wks]) w54) := F48.out.keep BB.out
  have F60 : Hid (At l13 h14 (CA1 K1x1 D1x1) w54) := F49.out.keep BB.out
  have F61 : Hid (At x31 (x31 + 1) (Bx x31 [.int .i64 fid, .string fky, .bool fbk, .bool fot, .int .i64 fdu, .bool fdm, .string fm, .string fh, .string fp, .slice (some ⟨K1x1, 0, none⟩) fn fn, .slice (some ⟨D1x1, 0, none⟩) un un]) w54) := F50.out.keep BB.out
  have F62 : Hid (At lsg hsg (CR rag rng rkg wag wng wkg) w54) := F51.out.keep BB.out
  have F63 : Hid (At Xg (Xg + 1) (Bx Xg [.int .i64 rc, .int .i64 qid, .string qky, .bool qbk, .bool qot, .int .i64 qdu, .bool qdm, .string qmm, .string qhh, .string qpp, .slice rag rng rkg, .slice wag wng wkg]) w54) := F52.out.keep BB.out
  clear K44 F45 F46 F47 F48 F49 F50 F51 F52
  clear HKS B0 BA BB MA KB0
  clear HQ1
  have LF56 := hidL F56.out.val.1
  have LF59 := hidL F59.out.val.1
  have LF61 := hidL F61.out.val.1
  have LF63 := hidL F63.out.val.1
  go_wp2_with (first | ((with_reducible refine flL_load (b := w.heap.size) (vs := [.int .i64 fid, .string fky, .bool fbk, .bool fot, .int .i64 fdu, .bool fdm, .string fm, .string fh, .string fp, .slice fa fn fc, .slice ua un uc]) ?_ ?_ LF56.out ?_); exact rfl; exact rfl) | ((with_reducible refine flR_load (b := Xs) (vs := [.int .i64 rc, .int .i64 qid, .string qky, .bool qbk, .bool qot, .int .i64 qdu, .bool qdm, .string qmm, .string qhh, .string qpp, .slice ras rns rks, .slice was wns wks]) ?_ ?_ LF59.out ?_); exact rfl; exact rfl) | ((with_reducible refine flI_load (b := x31) (vs := [.int .i64 fid, .string fky, .bool fbk, .bool fot, .int .i64 fdu, .bool fdm, .string fm, .string fh, .string fp, .slice (some ⟨K1x1, 0, none⟩) fn fn, .slice (some ⟨D1x1, 0, none⟩) un un]) ?_ ?_ LF61.out ?_); exact rfl; exact rfl) | ((with_reducible refine flR_load (b := Xg) (vs := [.int .i64 rc, .int .i64 qid, .string qky, .bool qbk, .bool qot, .int .i64 qdu, .bool qdm, .string qmm, .string qhh, .string qpp, .slice rag rng rkg, .slice wag wng wkg]) ?_ ?_ LF63.out ?_); exact rfl; exact rfl))
  clear LF56 LF59 LF61 LF63
  refine (HM1.out _ _ _ _ _ F60.out (by have := SW.out; have := O6.out; have := O15.out; have := O24.out; have := O33.out; omega)).mono ?_
  rintro e0 w64 ⟨rfl, hg, hb⟩
  clear F60
  have K65 : Hid (Below w.heap.size w w64) := K55.out.trans hb
  have F66 : Hid (At w.heap.size (w.heap.size + 1) (Bx w.heap.size [.int .i64 fid, .string fky, .bool fbk, .bool fot, .int .i64 fdu, .bool fdm, .string fm, .string fh, .string fp, .slice fa fn fc, .slice ua un uc]) w64) := F56.out.wi hg (by have := SW.out; have := O6.out; have := O15.out; have := O24.out; have := O33.out; omega)
  have F67 : Hid (At (w.heap.size + 1) ((w.heap.size + 1) + 1) (Bx (w.heap.size + 1) [.int .i64 wrq, .bool whd, .int .i64 wdu, .bool wlt]) w64) := F57.out.wi hg (by have := SW.out; have := O6.out; have := O15.out; have := O24.out; have := O33.out; omega)
  have F68 : Hid (At lss hss (CR ras rns rks was wns wks) w64) := F58.out.wi hg (by have := SW.out; have := O6.out; have := O15.out; have := O24.out; have := O33.out; omega)
  have F69 : Hid (At Xs (Xs + 1) (Bx Xs [.int .i64 rc, .int .i64 qid, .string qky, .bool qbk, .bool qot, .int .i64 qdu, .bool qdm, .string qmm, .string qhh, .string qpp, .slice ras rns rks, .slice was wns wks]) w64) := F59.out.wi hg (by have := SW.out; have := O6.out; have := O15.out; have := O24.out; have := O33.out; omega)
  have F70 : Hid (At x31 (x31 + 1) (Bx x31 [.int .i64 fid, .string fky, .bool fbk, .bool fot, .int .i64 fdu, .bool fdm, .string fm, .string fh, .string fp, .slice (some ⟨K1x1, 0, none⟩) fn fn, .slice (some ⟨D1x1, 0, none⟩) un un]) w64) := F61.out.wi hg (by have := SW.out; have := O6.out; have := O15.out; have := O24.out; have := O33.out; omega)
  have F71 : Hid (At lsg hsg (CR rag rng rkg wag wng wkg) w64) := F62.out.wi hg (by have := SW.out; have := O6.out; have := O15.out; have := O24.out; have := O33.out; omega)
  have F72 : Hid (At Xg (Xg + 1) (Bx Xg [.int .i64 rc, .int .i64 qid, .string qky, .bool qbk, .bool qot, .int .i64 qdu, .bool qdm, .string qmm, .string qhh, .string qpp, .slice rag rng rkg, .slice wag wng wkg]) w64) := F63.out.wi hg (by have := SW.out; have := O6.out; have := O15.out; have := O24.out; have := O33.out; omega)
  clear K55 F56 F57 F58 F59 F61 F62 F63 hg hb
  clear HM1
  have hkd : decide (k1 < 0) = false := by simpa using hk0
  have LF66 := hidL F66.out.val.1
  have LF69 := hidL F69.out.val.1
  have LF70 := hidL F70.out.val.1
  have LF72 := hidL F72.out.val.1
  go_wp2_with (first | ((with_reducible refine flL_load (b := w.heap.size) (vs := [.int .i64 fid, .string fky, .bool fbk, .bool fot, .int .i64 fdu, .bool fdm, .string fm, .string fh, .string fp, .slice fa fn fc, .slice ua un uc]) ?_ ?_ LF66.out ?_); exact rfl; exact rfl) | ((with_reducible refine flL_loadG (b := w.heap.size) (vs := [.int .i64 fid, .string fky, .bool fbk, .bool fot, .int .i64 fdu, .bool fdm, .string fm, .string fh, .string fp, .slice fa fn fc, .slice ua un uc]) ?_ ?_ ?_ LF66.out ?_); exact rfl; exact rfl; (first | exact rfl | kernel_rfl | simp [Region.wanted, yielded])) | ((with_reducible refine flR_load (b := Xs) (vs := [.int .i64 rc, .int .i64 qid, .string qky, .bool qbk, .bool qot, .int .i64 qdu, .bool qdm, .string qmm, .string qhh, .string qpp, .slice ras rns rks, .slice was wns wks]) ?_ ?_ LF69.out ?_); exact rfl; exact rfl) | ((with_reducible refine flR_loadG (b := Xs) (vs := [.int .i64 rc, .int .i64 qid, .string qky, .bool qbk, .bool qot, .int .i64 qdu, .bool qdm, .string qmm, .string qhh, .string qpp, .slice ras rns rks, .slice was wns wks]) ?_ ?_ ?_ LF69.out ?_); exact rfl; exact rfl; (first | exact rfl | kernel_rfl | simp [Region.wanted, yielded])) | ((with_reducible refine flI_load (b := x31) (vs := [.int .i64 fid, .string fky, .bool fbk, .bool fot, .int .i64 fdu, .bool fdm, .string fm, .string fh, .string fp, .slice (some ⟨K1x1, 0, none⟩) fn fn, .slice (some ⟨D1x1, 0, none⟩) un un]) ?_ ?_ LF70.out ?_); exact rfl; exact rfl) | ((with_reducible refine flI_loadG (b := x31) (vs := [.int .i64 fid, .string fky, .bool fbk, .bool fot, .int .i64 fdu, .bool fdm, .string fm, .string fh, .string fp, .slice (some ⟨K1x1, 0, none⟩) fn fn, .slice (some ⟨D1x1, 0, none⟩) un un]) ?_ ?_ ?_ LF70.out ?_); exact rfl; exact rfl; (first | exact rfl | kernel_rfl | simp [Region.wanted, yielded])) | ((with_reducible refine flR_load (b := Xg) (vs := [.int .i64 rc, .int .i64 qid, .string qky, .bool qbk, .bool qot, .int .i64 qdu, .bool qdm, .string qmm, .string qhh, .string qpp, .slice rag rng rkg, .slice wag wng wkg]) ?_ ?_ LF72.out ?_); exact rfl; exact rfl) | ((with_reducible refine flR_loadG (b := Xg) (vs := [.int .i64 rc, .int .i64 qid, .string qky, .bool qbk, .bool qot, .int .i64 qdu, .bool qdm, .string qmm, .string qhh, .string qpp, .slice rag rng rkg, .slice wag wng wkg]) ?_ ?_ ?_ LF72.out ?_); exact rfl; exact rfl; (first | exact rfl | kernel_rfl | simp [Region.wanted, yielded])))
  clear LF66 LF69 LF70 LF72
  refine (HEQ.out _ _ _ _ _ _ _ _ _ _ _ _ _ _ _ _ _ F71.out F68.out).mono ?_
  rintro e0 w73 ⟨rfl, hb⟩
  have K74 : Hid (Below w.heap.size w w73) := K65.out.trans (hb.mono K65.out.size)
  have F75 : Hid (At w.heap.size (w.heap.size + 1) (Bx w.heap.size [.int .i64 fid, .string fky, .bool fbk, .bool fot, .int .i64 fdu, .bool fdm, .string fm, .string fh, .string fp, .slice fa fn fc, .slice ua un uc]) w73) := F66.out.keep hb
  have F76 : Hid (At (w.heap.size + 1) ((w.heap.size + 1) + 1) (Bx (w.heap.size + 1) [.int .i64 wrq, .bool whd, .int .i64 wdu, .bool wlt]) w73) := F67.out.keep hb
  have F77 : Hid (At lss hss (CR ras rns rks was wns wks) w73) := F68.out.keep hb
  have F78 : Hid (At Xs (Xs + 1) (Bx Xs [.int .i64 rc, .int .i64 qid, .string qky, .bool qbk, .bool qot, .int .i64 qdu, .bool qdm, .string qmm, .string qhh, .string qpp, .slice ras rns rks, .slice was wns wks]) w73) := F69.out.keep hb
  have F79 : Hid (At x31 (x31 + 1) (Bx x31 [.int .i64 fid, .string fky, .bool fbk, .bool fot, .int .i64 fdu, .bool fdm, .string fm, .string fh, .string fp, .slice (some ⟨K1x1, 0, none⟩) fn fn, .slice (some ⟨D1x1, 0, none⟩) un un]) w73) := F70.out.keep hb
  have F80 : Hid (At lsg hsg (CR rag rng rkg wag wng wkg) w73) := F71.out.keep hb
  have F81 : Hid (At Xg (Xg + 1) (Bx Xg [.int .i64 rc, .int .i64 qid, .string qky, .bool qbk, .bool qot, .int .i64 qdu, .bool qdm, .string qmm, .string qhh, .string qpp, .slice rag rng rkg, .slice wag wng wkg]) w73) := F72.out.keep hb
  clear K65 F66 F67 F68 F69 F70 F71 F72 hb
  clear hkd
  clear F79
  have LF75 := hidL F75.out.val.1
  have LF78 := hidL F78.out.val.1
  have LF81 := hidL F81.out.val.1
  go_wp2_with (first | ((with_reducible refine flL_load (b := w.heap.size) (vs := [.int .i64 fid, .string fky, .bool fbk, .bool fot, .int .i64 fdu, .bool fdm, .string fm, .string fh, .string fp, .slice fa fn fc, .slice ua un uc]) ?_ ?_ LF75.out ?_); exact rfl; exact rfl) | ((with_reducible refine flR_load (b := Xs) (vs := [.int .i64 rc, .int .i64 qid, .string qky, .bool qbk, .bool qot, .int .i64 qdu, .bool qdm, .string qmm, .string qhh, .string qpp, .slice ras rns rks, .slice was wns wks]) ?_ ?_ LF78.out ?_); exact rfl; exact rfl) | ((with_reducible refine flR_load (b := Xg) (vs := [.int .i64 rc, .int .i64 qid, .string qky, .bool qbk, .bool qot, .int .i64 qdu, .bool qdm, .string qmm, .string qhh, .string qpp, .slice rag rng rkg, .slice wag wng wkg]) ?_ ?_ LF81.out ?_); exact rfl; exact rfl))
  clear LF75 LF78 LF81
  refine (HMR.out _ _ _ _ _ _ _ _ _ K74.out F80.out (by have := SW.out; have := O6.out; have := O15.out; have := O24.out; have := O33.out; omega)).mono ?_
  rintro e0 w82 ⟨rfl, mr, hg, hb⟩
  clear F80
  have K83 : Hid (Below w.heap.size w w82) := K74.out.trans hb
  have F84 : Hid (At w.heap.size (w.heap.size + 1) (Bx w.heap.size [.int .i64 fid, .string fky, .bool fbk, .bool fot, .int .i64 fdu, .bool fdm, .string fm, .string fh, .string fp, .slice fa fn fc, .slice ua un uc]) w82) := F75.out.wi hg (by have := SW.out; have := O6.out; have := O15.out; have := O24.out; have := O33.out; omega)
  have F85 : Hid (At (w.heap.size + 1) ((w.heap.size + 1) + 1) (Bx (w.heap.size + 1) [.int .i64 wrq, .bool whd, .int .i64 wdu, .bool wlt]) w82) := F76.out.wi hg (by have := SW.out; have := O6.out; have := O15.out; have := O24.out; have := O33.out; omega)
  have F86 : Hid (At lss hss (CR ras rns rks was wns wks) w82) := F77.out.wi hg (by have := SW.out; have := O6.out; have := O15.out; have := O24.out; have := O33.out; omega)
  have F87 : Hid (At Xs (Xs + 1) (Bx Xs [.int .i64 rc, .int .i64 qid, .string qky, .bool qbk, .bool qot, .int .i64 qdu, .bool qdm, .string qmm, .string qhh, .string qpp, .slice ras rns rks, .slice was wns wks]) w82) := F78.out.wi hg (by have := SW.out; have := O6.out; have := O15.out; have := O24.out; have := O33.out; omega)
  have F88 : Hid (At Xg (Xg + 1) (Bx Xg [.int .i64 rc, .int .i64 qid, .string qky, .bool qbk, .bool qot, .int .i64 qdu, .bool qdm, .string qmm, .string qhh, .string qpp, .slice rag rng rkg, .slice wag wng wkg]) w82) := F81.out.wi hg (by have := SW.out; have := O6.out; have := O15.out; have := O24.out; have := O33.out; omega)
  clear K74 F75 F76 F77 F78 F81 hg hb
  have F89 : Hid (At lsg hsg (MR rag rng rkg wag wng wkg) w82) := mr
  clear mr HMR
  have LF84 := hidL F84.out.val.1
  have LF87 := hidL F87.out.val.1
  have LF88 := hidL F88.out.val.1
  go_wp2_with (first | ((with_reducible refine flL_load (b := w.heap.size) (vs := [.int .i64 fid, .string fky, .bool fbk, .bool fot, .int .i64 fdu, .bool fdm, .string fm, .string fh, .string fp, .slice fa fn fc, .slice ua un uc]) ?_ ?_ LF84.out ?_); exact rfl; exact rfl) | ((with_reducible refine flR_load (b := Xs) (vs := [.int .i64 rc, .int .i64 qid, .string qky, .bool qbk, .bool qot, .int .i64 qdu, .bool qdm, .string qmm, .string qhh, .string qpp, .slice ras rns rks, .slice was wns wks]) ?_ ?_ LF87.out ?_); exact rfl; exact rfl) | ((with_reducible refine flR_load (b := Xg) (vs := [.int .i64 rc, .int .i64 qid, .string qky, .bool qbk, .bool qot, .int .i64 qdu, .bool qdm, .string qmm, .string qhh, .string qpp, .slice rag rng rkg, .slice wag wng wkg]) ?_ ?_ LF88.out ?_); exact rfl; exact rfl))
  clear LF84 LF87 LF88
  refine (HHR.out _ _ _ _ _ _ _ _ _ F89.out).mono ?_
  rintro e0 w90 ⟨rfl, hb⟩
  have K91 : Hid (Below w.heap.size w w90) := K83.out.trans (hb.mono K83.out.size)
  have F92 : Hid (At w.heap.size (w.heap.size + 1) (Bx w.heap.size [.int .i64 fid, .string fky, .bool fbk, .bool fot, .int .i64 fdu, .bool fdm, .string fm, .string fh, .string fp, .slice fa fn fc, .slice ua un uc]) w90) := F84.out.keep hb
  have F93 : Hid (At (w.heap.size + 1) ((w.heap.size + 1) + 1) (Bx (w.heap.size + 1) [.int .i64 wrq, .bool whd, .int .i64 wdu, .bool wlt]) w90) := F85.out.keep hb
  have F94 : Hid (At lss hss (CR ras rns rks was wns wks) w90) := F86.out.keep hb
  have F95 : Hid (At Xs (Xs + 1) (Bx Xs [.int .i64 rc, .int .i64 qid, .string qky, .bool qbk, .bool qot, .int .i64 qdu, .bool qdm, .string qmm, .string qhh, .string qpp, .slice ras rns rks, .slice was wns wks]) w90) := F87.out.keep hb
  have F96 : Hid (At Xg (Xg + 1) (Bx Xg [.int .i64 rc, .int .i64 qid, .string qky, .bool qbk, .bool qot, .int .i64 qdu, .bool qdm, .string qmm, .string qhh, .string qpp, .slice rag rng rkg, .slice wag wng wkg]) w90) := F88.out.keep hb
  have F97 : Hid (At lsg hsg (MR rag rng rkg wag wng wkg) w90) := F89.out.keep hb
  clear K83 F84 F85 F86 F87 F88 F89 hb
  clear SW O6 O15 O24 O33
  go_upto_region 24 with fail
  go_cut [14] from 64 to 69 (fun sx wx => ∃ (X0 ls hs : Nat) (rah : Option Addr) (rnh : Nat) (rkh : Nat) (wah : Option Addr) (wnh : Nat) (wkh : Nat), sx = .pointer (some ⟨X0, 0, none⟩) ∧ Below w90.heap.size w90 wx ∧ At X0 (X0 + 1) (Bx X0 [.int .i64 rc, .int .i64 qid, .string qky, .bool qbk, .bool qot, .int .i64 qdu, .bool qdm, .string qmm, .string qhh, .string qpp, .slice rah rnh rkh, .slice wah wnh wkh]) wx ∧ At ls hs (CR rah rnh rkh wah wnh wkh) wx ∧ (X0 < ls ∨ hs ≤ X0) ∧ w90.heap.size ≤ X0 ∧ w90.heap.size ≤ ls ∧ ls ≤ hs)
  case first =>
    have HKS : Hid (∀ X, Below w90.heap.size w90 X → X.rangeAt w.heap.size 0 [.int .i64 fid, .string fky, .bool fbk, .bool fot, .int .i64 fdu, .bool fdm, .string fm, .string fh, .string fp, .slice fa fn fc, .slice ua un uc] ∧ X.rangeAt (w.heap.size + 1) 0 [.int .i64 wrq, .bool whd, .int .i64 wdu, .bool wlt]) := fun X hX => ⟨range_of (F92.out.keep hX).val.1, range_of (F93.out.keep hX).val.1⟩
    have KX : Hid (∀ X, Below w90.heap.size w90 X → Below w.heap.size w X) := fun X hX => K91.out.trans (hX.mono K91.out.size)
    have B0 : Hid (Below w90.heap.size w90 w90.drew) := (Below.refl _ _).drew
    have HS0 := HKS.out _ B0.out
    refine wp_region_last (fun X => X.rangeAt w.heap.size 0 [.int .i64 fid, .string fky, .bool fbk, .bool fot, .int .i64 fdu, .bool fdm, .string fm, .string fh, .string fp, .slice fa fn fc, .slice ua un uc] ∧ X.rangeAt (w.heap.size + 1) 0 [.int .i64 wrq, .bool whd, .int .i64 wdu, .bool wlt]) 7 (by kernel_rfl) ?_
    refine butLast_take (i := 0) (oi := _) (v := .agg #[.int .i64 fid, .string fky, .bool fbk, .bool fot, .int .i64 fdu, .bool fdm, .string fm, .string fh, .string fp, .slice fa fn fc, .slice ua un uc]) rfl (by kernel_rfl) (by kernel_rfl) (by kernel_rfl) (by kernel_rfl) (fun _ _ _ h => h) (yieldsIf_load_mid (by rfl) _ _ rfl (w.heap.size) 0 rfl _ _ (fun _ h => h.1) Tryz.underlying77 rfl flL_size) HS0 ?_
    try simp only [Act.put, List.setIfInBounds_toArray, List.set_cons_zero, List.set_cons_succ]
    refine butLast_take (i := 2) (oi := _) (v := .agg #[.int .i64 wrq, .bool whd, .int .i64 wdu, .bool wlt]) rfl (by kernel_rfl) (by kernel_rfl) (by kernel_rfl) (by kernel_rfl) (fun _ _ _ h => h) (yieldsIf_load_mid (by rfl) _ _ rfl ((w.heap.size + 1)) 0 rfl _ _ (fun _ h => h.2) Tryz.underlying79 rfl wrL_size) HS0 ?_
    try simp only [Act.put, List.setIfInBounds_toArray, List.set_cons_zero, List.set_cons_succ]
    refine butLast_take (i := 4) (oi := _) (v := .int .i64 room) rfl (by kernel_rfl) (by kernel_rfl) (by kernel_rfl) (by kernel_rfl) (fun _ _ _ h => h) (Or.inl ⟨by kernel_rfl, ?_⟩) HS0 ?_
    · rintro X ⟨s1, s2⟩
      go_simp
    try simp only [Act.put, List.setIfInBounds_toArray, List.set_cons_zero, List.set_cons_succ]
    clear HS0
    refine butLast_2 (i := 1) (j := 6) rfl rfl (by kernel_rfl) (fun K hK => ?_) (fun K hK => ?_)
    · go_simp
      (with_reducible refine (HT1.out w90.drew (KX.out _ B0.out)).mono ?_)
      rintro e0 uh0 ⟨⟨K1hc, D1hc, rfl, ca⟩, hb⟩
      have B0a : Hid (Below w90.heap.size w90 uh0) := B0.out.trans (hb.mono B0.out.size)
      have CC := hidL ca
      clear hb ca
      refine hK _ _ (.inr (HKS.out _ B0a.out)) ?_
      clear hK K
      try simp only [Act.put, List.setIfInBounds_toArray, List.set_cons_zero, List.set_cons_succ]
      refine butLast_2 (i := 3) (j := 6) rfl rfl (by kernel_rfl) (fun K hK => ?_) (fun K hK => ?_)
      · go_simp
        (with_reducible refine (HP.out uh0).mono ?_)
        rintro e0 uh1 ⟨rfl, hb⟩
        have B1a : Hid (Below w90.heap.size w90 uh1) := B0a.out.trans (hb.mono B0a.out.size)
        replace CC := hidL (CC.out.keep hb)
        clear hb
        refine hK _ _ (.inr (HKS.out _ B1a.out)) ?_
        clear hK K
        try simp only [Act.put, List.setIfInBounds_toArray, List.set_cons_zero, List.set_cons_succ]
        refine butLast_2 (i := 5) (j := 6) rfl rfl (by kernel_rfl) (fun K hK => ?_) (fun K hK => ?_)
        · go_simp
          have WX := hidL (show w90.heap.size ≤ uh1.heap.size from B1a.out.size)
          (with_reducible refine (HG.out uh1 _ _ _ _ (KX.out _ B1a.out) CC.out).mono ?_)
          rintro e0 uh2 ⟨⟨rah, rnh, rkh, wah, wnh, wkh, rfl, cr⟩, hb⟩
          have B2a : Hid (Below w90.heap.size w90 uh2) := B1a.out.trans (hb.mono B1a.out.size)
          have CRf := hidL cr
          have SZ := hidL (show uh1.heap.size ≤ uh2.heap.size from hb.size)
          clear hb cr
          refine hK _ _ (.inr (HKS.out _ B2a.out)) ?_
          clear hK K
          try simp only [Act.put, List.setIfInBounds_toArray, List.set_cons_zero, List.set_cons_succ]
          refine butLast_one (i := 6) rfl (by kernel_rfl) (fun K hK => ?_)
          go_simp
          have A3 : Hid (Below w90.heap.size w90 (uh2.alloc (.cells #[.int .i64 0, .int .i64 0, .string ⟨#[]⟩, .bool false, .bool false, .int .i64 0, .bool false, .string ⟨#[]⟩, .string ⟨#[]⟩, .string ⟨#[]⟩, .slice none 0 0, .slice none 0 0] 88))) := B2a.out.alloc B2a.out.size _
          have ZZ : Hid (At uh2.heap.size (uh2.heap.size + 1) (Bx uh2.heap.size [.int .i64 0, .int .i64 0, .string ⟨#[]⟩, .bool false, .bool false, .int .i64 0, .bool false, .string ⟨#[]⟩, .string ⟨#[]⟩, .string ⟨#[]⟩, .slice none 0 0, .slice none 0 0]) (uh2.alloc (.cells #[.int .i64 0, .int .i64 0, .string ⟨#[]⟩, .bool false, .bool false, .int .i64 0, .bool false, .string ⟨#[]⟩, .string ⟨#[]⟩, .string ⟨#[]⟩, .slice none 0 0, .slice none 0 0] 88))) := Bx.newAt rfl [.int .i64 0, .int .i64 0, .string ⟨#[]⟩, .bool false, .bool false, .int .i64 0, .bool false, .string ⟨#[]⟩, .string ⟨#[]⟩, .string ⟨#[]⟩, .slice none 0 0, .slice none 0 0] _
          have XZ := hidL (show w90.heap.size ≤ uh2.heap.size from B2a.out.size)
          replace CRf := hidL (CRf.out.al (.cells #[.int .i64 0, .int .i64 0, .string ⟨#[]⟩, .bool false, .bool false, .int .i64 0, .bool false, .string ⟨#[]⟩, .string ⟨#[]⟩, .string ⟨#[]⟩, .slice none 0 0, .slice none 0 0] 88))
          refine hK _ _ (.inr (HKS.out _ A3.out)) ?_
          clear hK K
          try simp only [Act.put, List.setIfInBounds_toArray, List.set_cons_zero, List.set_cons_succ]
          refine butLast_one (i := 7) rfl (by kernel_rfl) (fun K hK => ?_)
          have LZ := hidL ZZ.out.val.1
          have LZf := hidL ZZ.out.val.2
          simp only [List.getElem_toArray, List.getElem_cons_succ, List.getElem_cons_zero]
          rw [if_pos (by simp [Region.wanted])]
          with_reducible refine flRNew_put (b := uh2.heap.size) (zs := [.int .i64 0, .int .i64 0, .string ⟨#[]⟩, .bool false, .bool false, .int .i64 0, .bool false, .string ⟨#[]⟩, .string ⟨#[]⟩, .string ⟨#[]⟩, .slice none 0 0, .slice none 0 0]) (vs := [.int .i64 rc, .int .i64 qid, .string qky, .bool qbk, .bool qot, .int .i64 qdu, .bool qdm, .string qmm, .string qhh, .string qpp, .slice rah rnh rkh, .slice wah wnh wkh]) ?_ ?_ ?_ ?_ ?_ LZ.out LZf.out ?_
          · rfl
          · rfl
          · rfl
          · rfl
          · rfl
          refine hK _ _ (.inl rfl) ?_
          clear LZ LZf
          clear hK K
          try simp only [Act.put, List.setIfInBounds_toArray, List.set_cons_zero, List.set_cons_succ]
          refine butLast_end (by kernel_rfl) ?_
          have FIN := hidL (show Below w90.heap.size w90 (putAll (uh2.alloc (.cells #[.int .i64 0, .int .i64 0, .string ⟨#[]⟩, .bool false, .bool false, .int .i64 0, .bool false, .string ⟨#[]⟩, .string ⟨#[]⟩, .string ⟨#[]⟩, .slice none 0 0, .slice none 0 0] 88)) uh2.heap.size 0 [.int .i64 rc, .int .i64 qid, .string qky, .bool qbk, .bool qot, .int .i64 qdu, .bool qdm, .string qmm, .string qhh, .string qpp, .slice rah rnh rkh, .slice wah wnh wkh]) ∧ At uh2.heap.size (uh2.heap.size + 1) (Bx uh2.heap.size [.int .i64 rc, .int .i64 qid, .string qky, .bool qbk, .bool qot, .int .i64 qdu, .bool qdm, .string qmm, .string qhh, .string qpp, .slice rah rnh rkh, .slice wah wnh wkh]) (putAll (uh2.alloc (.cells #[.int .i64 0, .int .i64 0, .string ⟨#[]⟩, .bool false, .bool false, .int .i64 0, .bool false, .string ⟨#[]⟩, .string ⟨#[]⟩, .string ⟨#[]⟩, .slice none 0 0, .slice none 0 0] 88)) uh2.heap.size 0 [.int .i64 rc, .int .i64 qid, .string qky, .bool qbk, .bool qot, .int .i64 qdu, .bool qdm, .string qmm, .string qhh, .string qpp, .slice rah rnh rkh, .slice wah wnh wkh]) ∧ At uh1.heap.size uh2.heap.size (CR rah rnh rkh wah wnh wkh) (putAll (uh2.alloc (.cells #[.int .i64 0, .int .i64 0, .string ⟨#[]⟩, .bool false, .bool false, .int .i64 0, .bool false, .string ⟨#[]⟩, .string ⟨#[]⟩, .string ⟨#[]⟩, .slice none 0 0, .slice none 0 0] 88)) uh2.heap.size 0 [.int .i64 rc, .int .i64 qid, .string qky, .bool qbk, .bool qot, .int .i64 qdu, .bool qdm, .string qmm, .string qhh, .string qpp, .slice rah rnh rkh, .slice wah wnh wkh]) ∧ (uh2.heap.size < uh1.heap.size ∨ uh2.heap.size ≤ uh2.heap.size) ∧ w90.heap.size ≤ uh2.heap.size ∧ w90.heap.size ≤ uh1.heap.size ∧ uh1.heap.size ≤ uh2.heap.size from ⟨below_putAll XZ.out [.int .i64 rc, .int .i64 qid, .string qky, .bool qbk, .bool qot, .int .i64 qdu, .bool qdm, .string qmm, .string qhh, .string qpp, .slice rah rnh rkh, .slice wah wnh wkh] 0 A3.out, Bx.putAll ZZ.out [.int .i64 rc, .int .i64 qid, .string qky, .bool qbk, .bool qot, .int .i64 qdu, .bool qdm, .string qmm, .string qhh, .string qpp, .slice rah rnh rkh, .slice wah wnh wkh] rfl, At.putAll (.inr (Nat.le_refl _)) [.int .i64 rc, .int .i64 qid, .string qky, .bool qbk, .bool qot, .int .i64 qdu, .bool qdm, .string qmm, .string qhh, .string qpp, .slice rah rnh rkh, .slice wah wnh wkh] 0 CRf.out, (.inr (Nat.le_refl _)), XZ.out, WX.out, SZ.out⟩)
          clear HKS KX
          go_wp2_with fail
          go_meet
          exact ⟨_, _, _, _, _, _, _, _, _, rfl, FIN.out⟩
        · go_simp
          have A2 : Hid (Below w90.heap.size w90 (uh1.alloc (.cells #[.int .i64 0, .int .i64 0, .string ⟨#[]⟩, .bool false, .bool false, .int .i64 0, .bool false, .string ⟨#[]⟩, .string ⟨#[]⟩, .string ⟨#[]⟩, .slice none 0 0, .slice none 0 0] 88))) := B1a.out.alloc B1a.out.size _
          have ZZ : Hid (At uh1.heap.size (uh1.heap.size + 1) (Bx uh1.heap.size [.int .i64 0, .int .i64 0, .string ⟨#[]⟩, .bool false, .bool false, .int .i64 0, .bool false, .string ⟨#[]⟩, .string ⟨#[]⟩, .string ⟨#[]⟩, .slice none 0 0, .slice none 0 0]) (uh1.alloc (.cells #[.int .i64 0, .int .i64 0, .string ⟨#[]⟩, .bool false, .bool false, .int .i64 0, .bool false, .string ⟨#[]⟩, .string ⟨#[]⟩, .string ⟨#[]⟩, .slice none 0 0, .slice none 0 0] 88))) := Bx.newAt rfl [.int .i64 0, .int .i64 0, .string ⟨#[]⟩, .bool false, .bool false, .int .i64 0, .bool false, .string ⟨#[]⟩, .string ⟨#[]⟩, .string ⟨#[]⟩, .slice none 0 0, .slice none 0 0] _
          have XZ := hidL (show w90.heap.size ≤ uh1.heap.size from B1a.out.size)
          replace CC := hidL (CC.out.al (.cells #[.int .i64 0, .int .i64 0, .string ⟨#[]⟩, .bool false, .bool false, .int .i64 0, .bool false, .string ⟨#[]⟩, .string ⟨#[]⟩, .string ⟨#[]⟩, .slice none 0 0, .slice none 0 0] 88))
          refine hK _ _ (.inr (HKS.out _ A2.out)) ?_
          clear hK K
          try simp only [Act.put, List.setIfInBounds_toArray, List.set_cons_zero, List.set_cons_succ]
          refine butLast_one (i := 5) rfl (by kernel_rfl) (fun K hK => ?_)
          go_simp
          have WX := hidL (show w90.heap.size ≤ (uh1.alloc (.cells #[.int .i64 0, .int .i64 0, .string ⟨#[]⟩, .bool false, .bool false, .int .i64 0, .bool false, .string ⟨#[]⟩, .string ⟨#[]⟩, .string ⟨#[]⟩, .slice none 0 0, .slice none 0 0] 88)).heap.size from A2.out.size)
          have ZLT := hidL (show uh1.heap.size < (uh1.alloc (.cells #[.int .i64 0, .int .i64 0, .string ⟨#[]⟩, .bool false, .bool false, .int .i64 0, .bool false, .string ⟨#[]⟩, .string ⟨#[]⟩, .string ⟨#[]⟩, .slice none 0 0, .slice none 0 0] 88)).heap.size from ZZ.out.le)
          (with_reducible refine (HG.out (uh1.alloc (.cells #[.int .i64 0, .int .i64 0, .string ⟨#[]⟩, .bool false, .bool false, .int .i64 0, .bool false, .string ⟨#[]⟩, .string ⟨#[]⟩, .string ⟨#[]⟩, .slice none 0 0, .slice none 0 0] 88)) _ _ _ _ (KX.out _ A2.out) CC.out).mono ?_)
          rintro e0 uh2 ⟨⟨rah, rnh, rkh, wah, wnh, wkh, rfl, cr⟩, hb⟩
          have B2b : Hid (Below w90.heap.size w90 uh2) := A2.out.trans (hb.mono A2.out.size)
          have CRf := hidL cr
          have SZ := hidL (show (uh1.alloc (.cells #[.int .i64 0, .int .i64 0, .string ⟨#[]⟩, .bool false, .bool false, .int .i64 0, .bool false, .string ⟨#[]⟩, .string ⟨#[]⟩, .string ⟨#[]⟩, .slice none 0 0, .slice none 0 0] 88)).heap.size ≤ uh2.heap.size from hb.size)
          replace ZZ := hidL (ZZ.out.keep hb)
          clear hb cr
          refine hK _ _ (.inr (HKS.out _ B2b.out)) ?_
          clear hK K
          try simp only [Act.put, List.setIfInBounds_toArray, List.set_cons_zero, List.set_cons_succ]
          refine butLast_one (i := 7) rfl (by kernel_rfl) (fun K hK => ?_)
          have LZ := hidL ZZ.out.val.1
          have LZf := hidL ZZ.out.val.2
          simp only [List.getElem_toArray, List.getElem_cons_succ, List.getElem_cons_zero]
          rw [if_pos (by simp [Region.wanted])]
          with_reducible refine flRNew_put (b := uh1.heap.size) (zs := [.int .i64 0, .int .i64 0, .string ⟨#[]⟩, .bool false, .bool false, .int .i64 0, .bool false, .string ⟨#[]⟩, .string ⟨#[]⟩, .string ⟨#[]⟩, .slice none 0 0, .slice none 0 0]) (vs := [.int .i64 rc, .int .i64 qid, .string qky, .bool qbk, .bool qot, .int .i64 qdu, .bool qdm, .string qmm, .string qhh, .string qpp, .slice rah rnh rkh, .slice wah wnh wkh]) ?_ ?_ ?_ ?_ ?_ LZ.out LZf.out ?_
          · rfl
          · rfl
          · rfl
          · rfl
          · rfl
          refine hK _ _ (.inl rfl) ?_
          clear LZ LZf
          clear hK K
          try simp only [Act.put, List.setIfInBounds_toArray, List.set_cons_zero, List.set_cons_succ]
          refine butLast_end (by kernel_rfl) ?_
          have FIN := hidL (show Below w90.heap.size w90 (putAll uh2 uh1.heap.size 0 [.int .i64 rc, .int .i64 qid, .string qky, .bool qbk, .bool qot, .int .i64 qdu, .bool qdm, .string qmm, .string qhh, .string qpp, .slice rah rnh rkh, .slice wah wnh wkh]) ∧ At uh1.heap.size (uh1.heap.size + 1) (Bx uh1.heap.size [.int .i64 rc, .int .i64 qid, .string qky, .bool qbk, .bool qot, .int .i64 qdu, .bool qdm, .string qmm, .string qhh, .string qpp, .slice rah rnh rkh, .slice wah wnh wkh]) (putAll uh2 uh1.heap.size 0 [.int .i64 rc, .int .i64 qid, .string qky, .bool qbk, .bool qot, .int .i64 qdu, .bool qdm, .string qmm, .string qhh, .string qpp, .slice rah rnh rkh, .slice wah wnh wkh]) ∧ At (uh1.alloc (.cells #[.int .i64 0, .int .i64 0, .string ⟨#[]⟩, .bool false, .bool false, .int .i64 0, .bool false, .string ⟨#[]⟩, .string ⟨#[]⟩, .string ⟨#[]⟩, .slice none 0 0, .slice none 0 0] 88)).heap.size uh2.heap.size (CR rah rnh rkh wah wnh wkh) (putAll uh2 uh1.heap.size 0 [.int .i64 rc, .int .i64 qid, .string qky, .bool qbk, .bool qot, .int .i64 qdu, .bool qdm, .string qmm, .string qhh, .string qpp, .slice rah rnh rkh, .slice wah wnh wkh]) ∧ (uh1.heap.size < (uh1.alloc (.cells #[.int .i64 0, .int .i64 0, .string ⟨#[]⟩, .bool false, .bool false, .int .i64 0, .bool false, .string ⟨#[]⟩, .string ⟨#[]⟩, .string ⟨#[]⟩, .slice none 0 0, .slice none 0 0] 88)).heap.size ∨ uh2.heap.size ≤ uh1.heap.size) ∧ w90.heap.size ≤ uh1.heap.size ∧ w90.heap.size ≤ (uh1.alloc (.cells #[.int .i64 0, .int .i64 0, .string ⟨#[]⟩, .bool false, .bool false, .int .i64 0, .bool false, .string ⟨#[]⟩, .string ⟨#[]⟩, .string ⟨#[]⟩, .slice none 0 0, .slice none 0 0] 88)).heap.size ∧ (uh1.alloc (.cells #[.int .i64 0, .int .i64 0, .string ⟨#[]⟩, .bool false, .bool false, .int .i64 0, .bool false, .string ⟨#[]⟩, .string ⟨#[]⟩, .string ⟨#[]⟩, .slice none 0 0, .slice none 0 0] 88)).heap.size ≤ uh2.heap.size from ⟨below_putAll XZ.out [.int .i64 rc, .int .i64 qid, .string qky, .bool qbk, .bool qot, .int .i64 qdu, .bool qdm, .string qmm, .string qhh, .string qpp, .slice rah rnh rkh, .slice wah wnh wkh] 0 B2b.out, Bx.putAll ZZ.out [.int .i64 rc, .int .i64 qid, .string qky, .bool qbk, .bool qot, .int .i64 qdu, .bool qdm, .string qmm, .string qhh, .string qpp, .slice rah rnh rkh, .slice wah wnh wkh] rfl, At.putAll (.inl ZLT.out) [.int .i64 rc, .int .i64 qid, .string qky, .bool qbk, .bool qot, .int .i64 qdu, .bool qdm, .string qmm, .string qhh, .string qpp, .slice rah rnh rkh, .slice wah wnh wkh] 0 CRf.out, (.inl ZLT.out), XZ.out, WX.out, SZ.out⟩)
          clear HKS KX
          go_wp2_with fail
          go_meet
          exact ⟨_, _, _, _, _, _, _, _, _, rfl, FIN.out⟩
      · go_simp
        have A1 : Hid (Below w90.heap.size w90 (uh0.alloc (.cells #[.int .i64 0, .int .i64 0, .string ⟨#[]⟩, .bool false, .bool false, .int .i64 0, .bool false, .string ⟨#[]⟩, .string ⟨#[]⟩, .string ⟨#[]⟩, .slice none 0 0, .slice none 0 0] 88))) := B0a.out.alloc B0a.out.size _
        have ZZ : Hid (At uh0.heap.size (uh0.heap.size + 1) (Bx uh0.heap.size [.int .i64 0, .int .i64 0, .string ⟨#[]⟩, .bool false, .bool false, .int .i64 0, .bool false, .string ⟨#[]⟩, .string ⟨#[]⟩, .string ⟨#[]⟩, .slice none 0 0, .slice none 0 0]) (uh0.alloc (.cells #[.int .i64 0, .int .i64 0, .string ⟨#[]⟩, .bool false, .bool false, .int .i64 0, .bool false, .string ⟨#[]⟩, .string ⟨#[]⟩, .string ⟨#[]⟩, .slice none 0 0, .slice none 0 0] 88))) := Bx.newAt rfl [.int .i64 0, .int .i64 0, .string ⟨#[]⟩, .bool false, .bool false, .int .i64 0, .bool false, .string ⟨#[]⟩, .string ⟨#[]⟩, .string ⟨#[]⟩, .slice none 0 0, .slice none 0 0] _
        have XZ := hidL (show w90.heap.size ≤ uh0.heap.size from B0a.out.size)
        replace CC := hidL (CC.out.al (.cells #[.int .i64 0, .int .i64 0, .string ⟨#[]⟩, .bool false, .bool false, .int .i64 0, .bool false, .string ⟨#[]⟩, .string ⟨#[]⟩, .string ⟨#[]⟩, .slice none 0 0, .slice none 0 0] 88))
        refine hK _ _ (.inr (HKS.out _ A1.out)) ?_
        clear hK K
        try simp only [Act.put, List.setIfInBounds_toArray, List.set_cons_zero, List.set_cons_succ]
        refine butLast_one (i := 3) rfl (by kernel_rfl) (fun K hK => ?_)
        go_simp
        (with_reducible refine (HP.out (uh0.alloc (.cells #[.int .i64 0, .int .i64 0, .string ⟨#[]⟩, .bool false, .bool false, .int .i64 0, .bool false, .string ⟨#[]⟩, .string ⟨#[]⟩, .string ⟨#[]⟩, .slice none 0 0, .slice none 0 0] 88))).mono ?_)
        rintro e0 uh1 ⟨rfl, hb⟩
        have B1b : Hid (Below w90.heap.size w90 uh1) := A1.out.trans (hb.mono A1.out.size)
        replace CC := hidL (CC.out.keep hb)
        replace ZZ := hidL (ZZ.out.keep hb)
        clear hb
        refine hK _ _ (.inr (HKS.out _ B1b.out)) ?_
        clear hK K
        try simp only [Act.put, List.setIfInBounds_toArray, List.set_cons_zero, List.set_cons_succ]
        refine butLast_one (i := 5) rfl (by kernel_rfl) (fun K hK => ?_)
        go_simp
        have WX := hidL (show w90.heap.size ≤ uh1.heap.size from B1b.out.size)
        have ZLT := hidL (show uh0.heap.size < uh1.heap.size from ZZ.out.le)
        (with_reducible refine (HG.out uh1 _ _ _ _ (KX.out _ B1b.out) CC.out).mono ?_)
        rintro e0 uh2 ⟨⟨rah, rnh, rkh, wah, wnh, wkh, rfl, cr⟩, hb⟩
        have B2b : Hid (Below w90.heap.size w90 uh2) := B1b.out.trans (hb.mono B1b.out.size)
        have CRf := hidL cr
        have SZ := hidL (show uh1.heap.size ≤ uh2.heap.size from hb.size)
        replace ZZ := hidL (ZZ.out.keep hb)
        clear hb cr
        refine hK _ _ (.inr (HKS.out _ B2b.out)) ?_
        clear hK K
        try simp only [Act.put, List.setIfInBounds_toArray, List.set_cons_zero, List.set_cons_succ]
        refine butLast_one (i := 7) rfl (by kernel_rfl) (fun K hK => ?_)
        have LZ := hidL ZZ.out.val.1
        have LZf := hidL ZZ.out.val.2
        simp only [List.getElem_toArray, List.getElem_cons_succ, List.getElem_cons_zero]
        rw [if_pos (by simp [Region.wanted])]
        with_reducible refine flRNew_put (b := uh0.heap.size) (zs := [.int .i64 0, .int .i64 0, .string ⟨#[]⟩, .bool false, .bool false, .int .i64 0, .bool false, .string ⟨#[]⟩, .string ⟨#[]⟩, .string ⟨#[]⟩, .slice none 0 0, .slice none 0 0]) (vs := [.int .i64 rc, .int .i64 qid, .string qky, .bool qbk, .bool qot, .int .i64 qdu, .bool qdm, .string qmm, .string qhh, .string qpp, .slice rah rnh rkh, .slice wah wnh wkh]) ?_ ?_ ?_ ?_ ?_ LZ.out LZf.out ?_
        · rfl
        · rfl
        · rfl
        · rfl
        · rfl
        refine hK _ _ (.inl rfl) ?_
        clear LZ LZf
        clear hK K
        try simp only [Act.put, List.setIfInBounds_toArray, List.set_cons_zero, List.set_cons_succ]
        refine butLast_end (by kernel_rfl) ?_
        have FIN := hidL (show Below w90.heap.size w90 (putAll uh2 uh0.heap.size 0 [.int .i64 rc, .int .i64 qid, .string qky, .bool qbk, .bool qot, .int .i64 qdu, .bool qdm, .string qmm, .string qhh, .string qpp, .slice rah rnh rkh, .slice wah wnh wkh]) ∧ At uh0.heap.size (uh0.heap.size + 1) (Bx uh0.heap.size [.int .i64 rc, .int .i64 qid, .string qky, .bool qbk, .bool qot, .int .i64 qdu, .bool qdm, .string qmm, .string qhh, .string qpp, .slice rah rnh rkh, .slice wah wnh wkh]) (putAll uh2 uh0.heap.size 0 [.int .i64 rc, .int .i64 qid, .string qky, .bool qbk, .bool qot, .int .i64 qdu, .bool qdm, .string qmm, .string qhh, .string qpp, .slice rah rnh rkh, .slice wah wnh wkh]) ∧ At uh1.heap.size uh2.heap.size (CR rah rnh rkh wah wnh wkh) (putAll uh2 uh0.heap.size 0 [.int .i64 rc, .int .i64 qid, .string qky, .bool qbk, .bool qot, .int .i64 qdu, .bool qdm, .string qmm, .string qhh, .string qpp, .slice rah rnh rkh, .slice wah wnh wkh]) ∧ (uh0.heap.size < uh1.heap.size ∨ uh2.heap.size ≤ uh0.heap.size) ∧ w90.heap.size ≤ uh0.heap.size ∧ w90.heap.size ≤ uh1.heap.size ∧ uh1.heap.size ≤ uh2.heap.size from ⟨below_putAll XZ.out [.int .i64 rc, .int .i64 qid, .string qky, .bool qbk, .bool qot, .int .i64 qdu, .bool qdm, .string qmm, .string qhh, .string qpp, .slice rah rnh rkh, .slice wah wnh wkh] 0 B2b.out, Bx.putAll ZZ.out [.int .i64 rc, .int .i64 qid, .string qky, .bool qbk, .bool qot, .int .i64 qdu, .bool qdm, .string qmm, .string qhh, .string qpp, .slice rah rnh rkh, .slice wah wnh wkh] rfl, At.putAll (.inl ZLT.out) [.int .i64 rc, .int .i64 qid, .string qky, .bool qbk, .bool qot, .int .i64 qdu, .bool qdm, .string qmm, .string qhh, .string qpp, .slice rah rnh rkh, .slice wah wnh wkh] 0 CRf.out, (.inl ZLT.out), XZ.out, WX.out, SZ.out⟩)
        clear HKS KX
        go_wp2_with fail
        go_meet
        exact ⟨_, _, _, _, _, _, _, _, _, rfl, FIN.out⟩
    · go_simp
      have A0 : Hid (Below w90.heap.size w90 (w90.alloc (.cells #[.int .i64 0, .int .i64 0, .string ⟨#[]⟩, .bool false, .bool false, .int .i64 0, .bool false, .string ⟨#[]⟩, .string ⟨#[]⟩, .string ⟨#[]⟩, .slice none 0 0, .slice none 0 0] 88)).drew) := ((Below.refl _ _).alloc (Nat.le_refl _) _).drew
      have ZZ : Hid (At w90.heap.size (w90.heap.size + 1) (Bx w90.heap.size [.int .i64 0, .int .i64 0, .string ⟨#[]⟩, .bool false, .bool false, .int .i64 0, .bool false, .string ⟨#[]⟩, .string ⟨#[]⟩, .string ⟨#[]⟩, .slice none 0 0, .slice none 0 0]) (w90.alloc (.cells #[.int .i64 0, .int .i64 0, .string ⟨#[]⟩, .bool false, .bool false, .int .i64 0, .bool false, .string ⟨#[]⟩, .string ⟨#[]⟩, .string ⟨#[]⟩, .slice none 0 0, .slice none 0 0] 88)).drew) := (Bx.newAt rfl [.int .i64 0, .int .i64 0, .string ⟨#[]⟩, .bool false, .bool false, .int .i64 0, .bool false, .string ⟨#[]⟩, .string ⟨#[]⟩, .string ⟨#[]⟩, .slice none 0 0, .slice none 0 0] _).keep ((Below.refl _ _).drew)
      have XZ := hidL (Nat.le_refl w90.heap.size)
      refine hK _ _ (.inr (HKS.out _ A0.out)) ?_
      clear hK K
      try simp only [Act.put, List.setIfInBounds_toArray, List.set_cons_zero, List.set_cons_succ]
      refine butLast_one (i := 1) rfl (by kernel_rfl) (fun K hK => ?_)
      go_simp
      (with_reducible refine (HT1.out (w90.alloc (.cells #[.int .i64 0, .int .i64 0, .string ⟨#[]⟩, .bool false, .bool false, .int .i64 0, .bool false, .string ⟨#[]⟩, .string ⟨#[]⟩, .string ⟨#[]⟩, .slice none 0 0, .slice none 0 0] 88)).drew (KX.out _ A0.out)).mono ?_)
      rintro e0 uh0 ⟨⟨K1hc, D1hc, rfl, ca⟩, hb⟩
      have B0b : Hid (Below w90.heap.size w90 uh0) := A0.out.trans (hb.mono A0.out.size)
      have CC := hidL ca
      replace ZZ := hidL (ZZ.out.keep hb)
      clear hb ca
      refine hK _ _ (.inr (HKS.out _ B0b.out)) ?_
      clear hK K
      try simp only [Act.put, List.setIfInBounds_toArray, List.set_cons_zero, List.set_cons_succ]
      refine butLast_one (i := 3) rfl (by kernel_rfl) (fun K hK => ?_)
      go_simp
      (with_reducible refine (HP.out uh0).mono ?_)
      rintro e0 uh1 ⟨rfl, hb⟩
      have B1b : Hid (Below w90.heap.size w90 uh1) := B0b.out.trans (hb.mono B0b.out.size)
      replace CC := hidL (CC.out.keep hb)
      replace ZZ := hidL (ZZ.out.keep hb)
      clear hb
      refine hK _ _ (.inr (HKS.out _ B1b.out)) ?_
      clear hK K
      try simp only [Act.put, List.setIfInBounds_toArray, List.set_cons_zero, List.set_cons_succ]
      refine butLast_one (i := 5) rfl (by kernel_rfl) (fun K hK => ?_)
      go_simp
      have WX := hidL (show w90.heap.size ≤ uh1.heap.size from B1b.out.size)
      have ZLT := hidL (show w90.heap.size < uh1.heap.size from ZZ.out.le)
      (with_reducible refine (HG.out uh1 _ _ _ _ (KX.out _ B1b.out) CC.out).mono ?_)
      rintro e0 uh2 ⟨⟨rah, rnh, rkh, wah, wnh, wkh, rfl, cr⟩, hb⟩
      have B2b : Hid (Below w90.heap.size w90 uh2) := B1b.out.trans (hb.mono B1b.out.size)
      have CRf := hidL cr
      have SZ := hidL (show uh1.heap.size ≤ uh2.heap.size from hb.size)
      replace ZZ := hidL (ZZ.out.keep hb)
      clear hb cr
      refine hK _ _ (.inr (HKS.out _ B2b.out)) ?_
      clear hK K
      try simp only [Act.put, List.setIfInBounds_toArray, List.set_cons_zero, List.set_cons_succ]
      refine butLast_one (i := 7) rfl (by kernel_rfl) (fun K hK => ?_)
      have LZ := hidL ZZ.out.val.1
      have LZf := hidL ZZ.out.val.2
      simp only [List.getElem_toArray, List.getElem_cons_succ, List.getElem_cons_zero]
      rw [if_pos (by simp [Region.wanted])]
      with_reducible refine flRNew_put (b := w90.heap.size) (zs := [.int .i64 0, .int .i64 0, .string ⟨#[]⟩, .bool false, .bool false, .int .i64 0, .bool false, .string ⟨#[]⟩, .string ⟨#[]⟩, .string ⟨#[]⟩, .slice none 0 0, .slice none 0 0]) (vs := [.int .i64 rc, .int .i64 qid, .string qky, .bool qbk, .bool qot, .int .i64 qdu, .bool qdm, .string qmm, .string qhh, .string qpp, .slice rah rnh rkh, .slice wah wnh wkh]) ?_ ?_ ?_ ?_ ?_ LZ.out LZf.out ?_
      · rfl
      · rfl
      · rfl
      · rfl
      · rfl
      refine hK _ _ (.inl rfl) ?_
      clear LZ LZf
      clear hK K
      try simp only [Act.put, List.setIfInBounds_toArray, List.set_cons_zero, List.set_cons_succ]
      refine butLast_end (by kernel_rfl) ?_
      have FIN := hidL (show Below w90.heap.size w90 (putAll uh2 w90.heap.size 0 [.int .i64 rc, .int .i64 qid, .string qky, .bool qbk, .bool qot, .int .i64 qdu, .bool qdm, .string qmm, .string qhh, .string qpp, .slice rah rnh rkh, .slice wah wnh wkh]) ∧ At w90.heap.size (w90.heap.size + 1) (Bx w90.heap.size [.int .i64 rc, .int .i64 qid, .string qky, .bool qbk, .bool qot, .int .i64 qdu, .bool qdm, .string qmm, .string qhh, .string qpp, .slice rah rnh rkh, .slice wah wnh wkh]) (putAll uh2 w90.heap.size 0 [.int .i64 rc, .int .i64 qid, .string qky, .bool qbk, .bool qot, .int .i64 qdu, .bool qdm, .string qmm, .string qhh, .string qpp, .slice rah rnh rkh, .slice wah wnh wkh]) ∧ At uh1.heap.size uh2.heap.size (CR rah rnh rkh wah wnh wkh) (putAll uh2 w90.heap.size 0 [.int .i64 rc, .int .i64 qid, .string qky, .bool qbk, .bool qot, .int .i64 qdu, .bool qdm, .string qmm, .string qhh, .string qpp, .slice rah rnh rkh, .slice wah wnh wkh]) ∧ (w90.heap.size < uh1.heap.size ∨ uh2.heap.size ≤ w90.heap.size) ∧ w90.heap.size ≤ w90.heap.size ∧ w90.heap.size ≤ uh1.heap.size ∧ uh1.heap.size ≤ uh2.heap.size from ⟨below_putAll XZ.out [.int .i64 rc, .int .i64 qid, .string qky, .bool qbk, .bool qot, .int .i64 qdu, .bool qdm, .string qmm, .string qhh, .string qpp, .slice rah rnh rkh, .slice wah wnh wkh] 0 B2b.out, Bx.putAll ZZ.out [.int .i64 rc, .int .i64 qid, .string qky, .bool qbk, .bool qot, .int .i64 qdu, .bool qdm, .string qmm, .string qhh, .string qpp, .slice rah rnh rkh, .slice wah wnh wkh] rfl, At.putAll (.inl ZLT.out) [.int .i64 rc, .int .i64 qid, .string qky, .bool qbk, .bool qot, .int .i64 qdu, .bool qdm, .string qmm, .string qhh, .string qpp, .slice rah rnh rkh, .slice wah wnh wkh] 0 CRf.out, (.inl ZLT.out), XZ.out, WX.out, SZ.out⟩)
      clear HKS KX
      go_wp2_with fail
      go_meet
      exact ⟨_, _, _, _, _, _, _, _, _, rfl, FIN.out⟩
  case rest =>
  obtain ⟨Xh, lsh, hsh, rah, rnh, rkh, wah, wnh, wkh, rfl, r1, r2, r3, r4, r5, r6, r7⟩ := hcut
  have O99 : Hid ((Xh < lsh ∨ hsh ≤ Xh) ∧ w.heap.size ≤ lsh ∧ w.heap.size ≤ Xh ∧ lsh ≤ hsh ∧ (w.heap.size + 1) ≤ lsh ∧ (w.heap.size + 1) ≤ Xh ∧ ((w.heap.size + 1) + 1) ≤ lsh ∧ ((w.heap.size + 1) + 1) ≤ Xh ∧ hss ≤ lsh ∧ hss ≤ Xh ∧ (Xs + 1) ≤ lsh ∧ (Xs + 1) ≤ Xh ∧ (Xg + 1) ≤ lsh ∧ (Xg + 1) ≤ Xh ∧ hsg ≤ lsh ∧ hsg ≤ Xh) := ⟨r4, Nat.le_trans K91.out.size r6, Nat.le_trans K91.out.size r5, r7, Nat.le_trans F92.out.le r6, Nat.le_trans F92.out.le r5, Nat.le_trans F93.out.le r6, Nat.le_trans F93.out.le r5, Nat.le_trans F94.out.le r6, Nat.le_trans F94.out.le r5, Nat.le_trans F95.out.le r6, Nat.le_trans F95.out.le r5, Nat.le_trans F96.out.le r6, Nat.le_trans F96.out.le r5, Nat.le_trans F97.out.le r6, Nat.le_trans F97.out.le r5⟩
  have K100 : Hid (Below w.heap.size w wc) := K91.out.trans (r1.mono K91.out.size)
  have F101 : Hid (At w.heap.size (w.heap.size + 1) (Bx w.heap.size [.int .i64 fid, .string fky, .bool fbk, .bool fot, .int .i64 fdu, .bool fdm, .string fm, .string fh, .string fp, .slice fa fn fc, .slice ua un uc]) wc) := F92.out.keep r1
  have F102 : Hid (At (w.heap.size + 1) ((w.heap.size + 1) + 1) (Bx (w.heap.size + 1) [.int .i64 wrq, .bool whd, .int .i64 wdu, .bool wlt]) wc) := F93.out.keep r1
  have F103 : Hid (At lss hss (CR ras rns rks was wns wks) wc) := F94.out.keep r1
  have F104 : Hid (At Xs (Xs + 1) (Bx Xs [.int .i64 rc, .int .i64 qid, .string qky, .bool qbk, .bool qot, .int .i64 qdu, .bool qdm, .string qmm, .string qhh, .string qpp, .slice ras rns rks, .slice was wns wks]) wc) := F95.out.keep r1
  have F105 : Hid (At Xg (Xg + 1) (Bx Xg [.int .i64 rc, .int .i64 qid, .string qky, .bool qbk, .bool qot, .int .i64 qdu, .bool qdm, .string qmm, .string qhh, .string qpp, .slice rag rng rkg, .slice wag wng wkg]) wc) := F96.out.keep r1
  have F106 : Hid (At lsg hsg (MR rag rng rkg wag wng wkg) wc) := F97.out.keep r1
  clear K91 F92 F93 F94 F95 F96 F97
  have F107 : Hid (At lsh hsh (CR rah rnh rkh wah wnh wkh) wc) := r3
  have F108 : Hid (At Xh (Xh + 1) (Bx Xh [.int .i64 rc, .int .i64 qid, .string qky, .bool qbk, .bool qot, .int .i64 qdu, .bool qdm, .string qmm, .string qhh, .string qpp, .slice rah rnh rkh, .slice wah wnh wkh]) wc) := r2
  clear r1 r2 r3 r4 r5 r6 r7
  generalize wc = V98 at *
  clear HG
  have LF101 := hidL F101.out.val.1
  have LF104 := hidL F104.out.val.1
  have LF105 := hidL F105.out.val.1
  have LF108 := hidL F108.out.val.1
  go_wp2_with (first | ((with_reducible refine flL_load (b := w.heap.size) (vs := [.int .i64 fid, .string fky, .bool fbk, .bool fot, .int .i64 fdu, .bool fdm, .string fm, .string fh, .string fp, .slice fa fn fc, .slice ua un uc]) ?_ ?_ LF101.out ?_); exact rfl; exact rfl) | ((with_reducible refine flR_load (b := Xs) (vs := [.int .i64 rc, .int .i64 qid, .string qky, .bool qbk, .bool qot, .int .i64 qdu, .bool qdm, .string qmm, .string qhh, .string qpp, .slice ras rns rks, .slice was wns wks]) ?_ ?_ LF104.out ?_); exact rfl; exact rfl) | ((with_reducible refine flR_load (b := Xg) (vs := [.int .i64 rc, .int .i64 qid, .string qky, .bool qbk, .bool qot, .int .i64 qdu, .bool qdm, .string qmm, .string qhh, .string qpp, .slice rag rng rkg, .slice wag wng wkg]) ?_ ?_ LF105.out ?_); exact rfl; exact rfl) | ((with_reducible refine flR_load (b := Xh) (vs := [.int .i64 rc, .int .i64 qid, .string qky, .bool qbk, .bool qot, .int .i64 qdu, .bool qdm, .string qmm, .string qhh, .string qpp, .slice rah rnh rkh, .slice wah wnh wkh]) ?_ ?_ LF108.out ?_); exact rfl; exact rfl))
  clear LF101 LF104 LF105 LF108
  refine (HEQ.out _ _ _ _ _ _ _ _ _ _ _ _ _ _ _ _ _ F107.out F103.out).mono ?_
  rintro e0 w109 ⟨rfl, hb⟩
  have K110 : Hid (Below w.heap.size w w109) := K100.out.trans (hb.mono K100.out.size)
  have F111 : Hid (At w.heap.size (w.heap.size + 1) (Bx w.heap.size [.int .i64 fid, .string fky, .bool fbk, .bool fot, .int .i64 fdu, .bool fdm, .string fm, .string fh, .string fp, .slice fa fn fc, .slice ua un uc]) w109) := F101.out.keep hb
  have F112 : Hid (At (w.heap.size + 1) ((w.heap.size + 1) + 1) (Bx (w.heap.size + 1) [.int .i64 wrq, .bool whd, .int .i64 wdu, .bool wlt]) w109) := F102.out.keep hb
  have F113 : Hid (At lss hss (CR ras rns rks was wns wks) w109) := F103.out.keep hb
  have F114 : Hid (At Xs (Xs + 1) (Bx Xs [.int .i64 rc, .int .i64 qid, .string qky, .bool qbk, .bool qot, .int .i64 qdu, .bool qdm, .string qmm, .string qhh, .string qpp, .slice ras rns rks, .slice was wns wks]) w109) := F104.out.keep hb
  have F115 : Hid (At Xg (Xg + 1) (Bx Xg [.int .i64 rc, .int .i64 qid, .string qky, .bool qbk, .bool qot, .int .i64 qdu, .bool qdm, .string qmm, .string qhh, .string qpp, .slice rag rng rkg, .slice wag wng wkg]) w109) := F105.out.keep hb
  have F116 : Hid (At lsg hsg (MR rag rng rkg wag wng wkg) w109) := F106.out.keep hb
  have F117 : Hid (At lsh hsh (CR rah rnh rkh wah wnh wkh) w109) := F107.out.keep hb
  have F118 : Hid (At Xh (Xh + 1) (Bx Xh [.int .i64 rc, .int .i64 qid, .string qky, .bool qbk, .bool qot, .int .i64 qdu, .bool qdm, .string qmm, .string qhh, .string qpp, .slice rah rnh rkh, .slice wah wnh wkh]) w109) := F108.out.keep hb
  clear K100 F101 F102 F103 F104 F105 F106 F107 F108 hb
  have LF111 := hidL F111.out.val.1
  have LF114 := hidL F114.out.val.1
  have LF115 := hidL F115.out.val.1
  have LF118 := hidL F118.out.val.1
  go_wp2_with (first | ((with_reducible refine flL_load (b := w.heap.size) (vs := [.int .i64 fid, .string fky, .bool fbk, .bool fot, .int .i64 fdu, .bool fdm, .string fm, .string fh, .string fp, .slice fa fn fc, .slice ua un uc]) ?_ ?_ LF111.out ?_); exact rfl; exact rfl) | ((with_reducible refine flR_load (b := Xs) (vs := [.int .i64 rc, .int .i64 qid, .string qky, .bool qbk, .bool qot, .int .i64 qdu, .bool qdm, .string qmm, .string qhh, .string qpp, .slice ras rns rks, .slice was wns wks]) ?_ ?_ LF114.out ?_); exact rfl; exact rfl) | ((with_reducible refine flR_load (b := Xg) (vs := [.int .i64 rc, .int .i64 qid, .string qky, .bool qbk, .bool qot, .int .i64 qdu, .bool qdm, .string qmm, .string qhh, .string qpp, .slice rag rng rkg, .slice wag wng wkg]) ?_ ?_ LF115.out ?_); exact rfl; exact rfl) | ((with_reducible refine flR_load (b := Xh) (vs := [.int .i64 rc, .int .i64 qid, .string qky, .bool qbk, .bool qot, .int .i64 qdu, .bool qdm, .string qmm, .string qhh, .string qpp, .slice rah rnh rkh, .slice wah wnh wkh]) ?_ ?_ LF118.out ?_); exact rfl; exact rfl))
  clear LF111 LF114 LF115 LF118
  refine (HHR.out _ _ _ _ _ _ _ _ _ F116.out).mono ?_
  rintro e0 w119 ⟨rfl, hb⟩
  have K120 : Hid (Below w.heap.size w w119) := K110.out.trans (hb.mono K110.out.size)
  have F121 : Hid (At w.heap.size (w.heap.size + 1) (Bx w.heap.size [.int .i64 fid, .string fky, .bool fbk, .bool fot, .int .i64 fdu, .bool fdm, .string fm, .string fh, .string fp, .slice fa fn fc, .slice ua un uc]) w119) := F111.out.keep hb
  have F122 : Hid (At (w.heap.size + 1) ((w.heap.size + 1) + 1) (Bx (w.heap.size + 1) [.int .i64 wrq, .bool whd, .int .i64 wdu, .bool wlt]) w119) := F112.out.keep hb
  have F123 : Hid (At lss hss (CR ras rns rks was wns wks) w119) := F113.out.keep hb
  have F124 : Hid (At Xs (Xs + 1) (Bx Xs [.int .i64 rc, .int .i64 qid, .string qky, .bool qbk, .bool qot, .int .i64 qdu, .bool qdm, .string qmm, .string qhh, .string qpp, .slice ras rns rks, .slice was wns wks]) w119) := F114.out.keep hb
  have F125 : Hid (At Xg (Xg + 1) (Bx Xg [.int .i64 rc, .int .i64 qid, .string qky, .bool qbk, .bool qot, .int .i64 qdu, .bool qdm, .string qmm, .string qhh, .string qpp, .slice rag rng rkg, .slice wag wng wkg]) w119) := F115.out.keep hb
  have F126 : Hid (At lsg hsg (MR rag rng rkg wag wng wkg) w119) := F116.out.keep hb
  have F127 : Hid (At lsh hsh (CR rah rnh rkh wah wnh wkh) w119) := F117.out.keep hb
  have F128 : Hid (At Xh (Xh + 1) (Bx Xh [.int .i64 rc, .int .i64 qid, .string qky, .bool qbk, .bool qot, .int .i64 qdu, .bool qdm, .string qmm, .string qhh, .string qpp, .slice rah rnh rkh, .slice wah wnh wkh]) w119) := F118.out.keep hb
  clear K110 F111 F112 F113 F114 F115 F116 F117 F118 hb
  go_wp2_with fail
  go_ret
  exact ⟨rfl, K120.out⟩
end Go.Proofs.YtacninhhkbglaaaGreatDoor
/-
  Those who wait for a flight, in memory.
-/
namespace Go.Proofs.YtacninhhkbglaaaGreatDoor
open Go.ChangeShapes Go.WideShapes Go.ChangeAt Go.RowKit
structure Wr where
  rq : Int
  hd : Bool
  du : Int
  lt : Bool
def WrAt (w : World) (b off : Nat) (l : List Wr) : Prop :=
  ∀ (i : Nat) r, l[i]? = some r → w.cell? ⟨b, off + i * 4, none⟩ = some (.int .i64 r.rq) ∧ w.cell? ⟨b, off + i * 4 + 1, none⟩ = some (.bool r.hd) ∧ w.cell? ⟨b, off + i * 4 + 2, none⟩ = some (.int .i64 r.du) ∧ w.cell? ⟨b, off + i * 4 + 3, none⟩ = some (.bool r.lt)
theorem WrAt.keep {w w' : World} {b off : Nat} {l : List Wr} (h : WrAt w b off l) (hb : Below w.heap.size w w') : WrAt w' b off l := by
  intro i r hr
  obtain ⟨p0, p1, p2, p3⟩ := h i r hr
  exact ⟨by rw [hb.cell (block_lt_of_cell p0)]; exact p0, by rw [hb.cell (block_lt_of_cell p1)]; exact p1, by rw [hb.cell (block_lt_of_cell p2)]; exact p2, by rw [hb.cell (block_lt_of_cell p3)]; exact p3⟩
/-- The slice at a holds l. -/
def WrIn (w : World) (a : Option Addr) (l : List Wr) : Prop := l = [] ∨ ∃ b off, a = some ⟨b, off, none⟩ ∧ WrAt w b off l
theorem WrIn.keep {w w' : World} {a : Option Addr} {l : List Wr} (h : WrIn w a l) (hb : Below w.heap.size w w') : WrIn w' a l := by
  rcases h with h | ⟨b, off, e, hat⟩
  · exact .inl h
  · exact .inr ⟨b, off, e, hat.keep hb⟩
theorem dropWr (l : List Wr) (k : Nat) (r : Wr) (h : l[k]? = some r) : l.drop k = r :: l.drop (k + 1) := by
  obtain ⟨hk, rfl⟩ := List.getElem?_eq_some_iff.1 h
  exact List.drop_eq_getElem_cons hk
set_option maxHeartbeats 400000 in
theorem toWr_any (r : Wr) (w : World) :
    Calls Tryz.prog 27 #[.agg #[.int .i64 r.rq, .bool r.hd, .int .i64 r.du, .bool r.lt]] w fun e w' => e = .returned (.agg #[.int .i64 r.rq, .bool r.hd, .int .i64 r.du, .bool r.lt]) ∧ Below w.heap.size w w' := by
  obtain ⟨rq, hd, du, lt⟩ := r
  simp only
  go_enter Tryz.func27, Tryz.ntmps27
  go_wp2
  exact bodyPost_ret (v := .agg #[.int .i64 rq, .bool hd, .int .i64 du, .bool lt]) (by simp [results, Tryz.results27, go_sem]) rfl ⟨rfl, (((Below.refl _ _).alloc (Nat.le_refl _) _).alloc (by simp) _).alloc (by simp; omega) _⟩
set_option maxHeartbeats 400000 in
theorem eqWr_same (r : Wr) (w : World) :
    Calls Tryz.prog 173 #[.agg #[.int .i64 r.rq, .bool r.hd, .int .i64 r.du, .bool r.lt], .agg #[.int .i64 r.rq, .bool r.hd, .int .i64 r.du, .bool r.lt]] w fun e w' => e = .returned (.bool true) ∧ Below w.heap.size w w' := by
  obtain ⟨rq, hd, du, lt⟩ := r
  simp only
  go_enter Tryz.func173, Tryz.ntmps173
  go_wp2
  go_ret
  exact ⟨rfl, ((Below.refl _ _).alloc (Nat.le_refl _) _).alloc (by simp) _⟩
def szWr (left : Int) (n : Nat) : Int := if left - (n : Int) < 0 then -1 else left - (n : Int)
set_option maxHeartbeats 400000 in
theorem szWr_any (w : World) (a : Option Addr) (cap n : Nat) (hl : n ≤ maxLen) (left : Int) (h0 : 0 ≤ left) (h1 : left ≤ 1048576) :
    Calls Tryz.prog 74 #[.slice a n cap, .int .i64 left] w fun e w' => e = .returned (.int .i64 (szWr left n)) ∧ w' = w := by
  unfold maxLen at hl
  by_cases c0 : left - (n : Int) < 0
  · have HE : Hid (szWr left n = -1) := by show _ = _; unfold szWr; rw [if_pos c0]
    go_enter Tryz.func74, Tryz.ntmps74
    go_wp2
    go_ret
    exact ⟨ret_int HE.out.symm, rfl⟩
  · have HE : Hid (szWr left n = left - (n : Int)) := by show _ = _; unfold szWr; rw [if_neg c0]
    have c0' : 0 ≤ left - (n : Int) := by omega
    go_enter Tryz.func74, Tryz.ntmps74
    go_wp2
    go_ret
    exact ⟨ret_int HE.out.symm, rfl⟩
theorem szWr_room {left : Int} {n : Nat} (h1 : left ≤ 1048576) (h : ¬ szWr left n < 0) : (n : Int) ≤ 1048576 ∧ szWr left n ≤ left ∧ 0 ≤ szWr left n := by
  unfold szWr at h ⊢
  by_cases c0 : left - (n : Int) < 0
  · rw [if_pos c0] at h; omega
  · rw [if_neg c0] at h ⊢; omega
end Go.Proofs.YtacninhhkbglaaaGreatDoor
/-
  The laws' copy of a list, and their comparing of two.
-/
namespace Go.Proofs.YtacninhhkbglaaaGreatDoor
open Go.ChangeShapes Go.WideShapes Go.ChangeAt Go.RowKit Go.Sort
/-- m cells from the head of block G on are there and may be written. -/
def RoomWr (w : World) (G m : Nat) : Prop := ∀ j, j < m → (∃ u, w.cell? ⟨G, j, none⟩ = some u) ∧ w.frozen? ⟨G, j, none⟩ = false
theorem RoomWr.keep {w w' : World} {G m : Nat} (h : RoomWr w G m) (hb : Below w.heap.size w w') : RoomWr w' G m := by
  intro j hj
  obtain ⟨⟨u, hu⟩, hf⟩ := h j hj
  exact ⟨⟨u, by rw [hb.cell (block_lt_of_cell hu)]; exact hu⟩, by rw [hb.frozen (block_lt_of_cell hu)]; exact hf⟩
theorem RoomWr.set {w : World} {G m : Nat} (h : RoomWr w G m) (a : Addr) (v : Value) : RoomWr (w.setCell a v) G m := by
  intro j hj
  obtain ⟨⟨u, hu⟩, hf⟩ := h j hj
  refine ⟨?_, by rw [World.frozen?_setCell]; exact hf⟩
  by_cases e : a = ⟨G, j, none⟩
  · exact ⟨v, by subst e; exact World.cell?_setCell_same _ _ _ hu⟩
  · exact ⟨u, by rw [World.cell?_setCell_other _ _ _ _ e]; exact hu⟩
def putWr (w : World) (G k : Nat) (r : Wr) : World := (((w.setCell ⟨G, k * 4, none⟩ (.int .i64 r.rq)).setCell ⟨G, k * 4 + 1, none⟩ (.bool r.hd)).setCell ⟨G, k * 4 + 2, none⟩ (.int .i64 r.du)).setCell ⟨G, k * 4 + 3, none⟩ (.bool r.lt)
theorem offWr_ne {G i j : Nat} (h : i ≠ j) : (⟨G, i, none⟩ : Addr) ≠ ⟨G, j, none⟩ := fun e => h (congrArg Addr.off e)
theorem putWr_other (w : World) (G k : Nat) (r : Wr) (j : Nat) (h0 : k * 4 ≠ j) (h1 : k * 4 + 1 ≠ j) (h2 : k * 4 + 2 ≠ j) (h3 : k * 4 + 3 ≠ j) : (putWr w G k r).cell? ⟨G, j, none⟩ = w.cell? ⟨G, j, none⟩ := by
  unfold putWr
  rw [World.cell?_setCell_other _ _ _ _ (offWr_ne h3), World.cell?_setCell_other _ _ _ _ (offWr_ne h2), World.cell?_setCell_other _ _ _ _ (offWr_ne h1), World.cell?_setCell_other _ _ _ _ (offWr_ne h0)]
theorem RoomWr.put {w : World} {G m : Nat} (h : RoomWr w G m) (k : Nat) (r : Wr) : RoomWr (putWr w G k r) G m := (((h.set _ _).set _ _).set _ _).set _ _
theorem WrAt.put {w : World} {G n : Nat} {l : List Wr} {k : Nat} {r : Wr} (h : WrAt w G 0 (l.take k)) (hr : l[k]? = some r) (hm : RoomWr w G (n * 4)) (hk : k < n) : WrAt (putWr w G k r) G 0 (l.take (k + 1)) := by
  intro i q hq
  have hi : i < k + 1 := by
    have := (List.getElem?_eq_some_iff.1 hq).1
    simp at this; omega
  rw [List.getElem?_take_of_lt hi] at hq
  simp only [Nat.zero_add]
  by_cases e : i = k
  · subst e
    rw [hr] at hq
    obtain rfl := Option.some.inj hq
    obtain ⟨⟨u0, g0⟩, _⟩ := hm (i * 4) (by omega)
    obtain ⟨⟨u1, g1⟩, _⟩ := (hm.set ⟨G, i * 4, none⟩ (.int .i64 r.rq)) (i * 4 + 1) (by omega)
    obtain ⟨⟨u2, g2⟩, _⟩ := ((hm.set ⟨G, i * 4, none⟩ (.int .i64 r.rq)).set ⟨G, i * 4 + 1, none⟩ (.bool r.hd)) (i * 4 + 2) (by omega)
    obtain ⟨⟨u3, g3⟩, _⟩ := (((hm.set ⟨G, i * 4, none⟩ (.int .i64 r.rq)).set ⟨G, i * 4 + 1, none⟩ (.bool r.hd)).set ⟨G, i * 4 + 2, none⟩ (.int .i64 r.du)) (i * 4 + 3) (by omega)
    unfold putWr
    exact ⟨by rw [World.cell?_setCell_other _ _ _ _ (offWr_ne (by omega)), World.cell?_setCell_other _ _ _ _ (offWr_ne (by omega)), World.cell?_setCell_other _ _ _ _ (offWr_ne (by omega))]; exact World.cell?_setCell_same _ _ _ g0, by rw [World.cell?_setCell_other _ _ _ _ (offWr_ne (by omega)), World.cell?_setCell_other _ _ _ _ (offWr_ne (by omega))]; exact World.cell?_setCell_same _ _ _ g1, by rw [World.cell?_setCell_other _ _ _ _ (offWr_ne (by omega))]; exact World.cell?_setCell_same _ _ _ g2, by exact World.cell?_setCell_same _ _ _ g3⟩
  · have hq2 : (l.take k)[i]? = some q := by rw [List.getElem?_take_of_lt (by omega)]; exact hq
    obtain ⟨a0, a1, a2, a3⟩ := h i q hq2
    simp only [Nat.zero_add] at a0 a1 a2 a3
    exact ⟨by rw [putWr_other _ _ _ _ _ (by omega) (by omega) (by omega) (by omega)]; exact a0, by rw [putWr_other _ _ _ _ _ (by omega) (by omega) (by omega) (by omega)]; exact a1, by rw [putWr_other _ _ _ _ _ (by omega) (by omega) (by omega) (by omega)]; exact a2, by rw [putWr_other _ _ _ _ _ (by omega) (by omega) (by omega) (by omega)]; exact a3⟩
theorem infoWr : (Tryz.prog.info? 91).map (fun i => (i.zero, i.size, i.bytes)) = some (some (.agg #[.int .i64 0, .bool false, .int .i64 0, .bool false]), 4, 32) := by kernel_rfl
set_option maxHeartbeats 2000000 in
theorem toWrS_any (w : World) (a : Option Addr) (cap : Nat) (l : List Wr) (hl : l.length ≤ 1048576) (hi : WrIn w a l) :
    Calls Tryz.prog 80 #[.slice a l.length cap] w fun e w' => e = .returned (.slice (some ⟨w.heap.size, 0, none⟩) l.length l.length) ∧ WrAt w' w.heap.size 0 l ∧ RoomWr w' w.heap.size (l.length * 4) ∧ w.heap.size < w'.heap.size ∧ Below w.heap.size w w' := by
  have HI : Hid (WrIn w a l) := hi
  obtain ⟨i0, hi0, hz0, hz1, hz2⟩ := info_parts infoWr
  clear hi
  generalize hn : l.length = n at *
  have HN : Hid (l.length = n) := hn
  clear hn
  go_enter Tryz.func80, Tryz.ntmps80
  go_wp2_with (at_make; refine wpList_make_full w rfl _ _ 84 rfl w.heap.size 91 i0 _ 4 Tryz.underlying84 hi0 hz0 hz1 _ _ _ _ n rfl rfl rfl rfl (by rw [hz2]; omega) (by unfold maxLen; omega) (Nat.le_refl _) ?_; intro w1 hown hgrow)
  have HR1 : Hid (RoomWr w1 w.heap.size (n * 4) ∧ w.heap.size < w1.heap.size ∧ Below w.heap.size w w1) := by
    refine ⟨fun j hj => ⟨?_, hown.frozenAt j⟩, (hown.lt _ rfl).2, (Below.refl _ _).grown hgrow (Nat.le_refl _) (fun q hq => by cases hq)⟩
    have h1 := hown.cellAt j hj
    have h2 : j < (madeCells (Value.agg #[.int .i64 0, .bool false, .int .i64 0, .bool false]).cells (n * 4)).toList.length := by have := hown.1; omega
    exact ⟨_, h1.trans (List.getElem?_eq_getElem h2)⟩
  clear hown hgrow
  go_loopw [4] (fun i wr => ∃ k : Nat, k ≤ n ∧ i = .int .i64 k ∧ WrAt wr w.heap.size 0 (l.take k) ∧ RoomWr wr w.heap.size (n * 4) ∧ w.heap.size < wr.heap.size ∧ Below w.heap.size w wr) (fun i _ => n - (intOf i).toNat)
  case atStart => exact ⟨0, Nat.zero_le _, rfl, fun i r hr => by simp at hr, HR1.out.1, HR1.out.2.1, HR1.out.2.2⟩
  case round =>
    obtain ⟨k, hk, rfl, hat, hroom, hup, hb⟩ := hrel
    clear HR1
    by_cases hlt : k < n
    · obtain ⟨r, hr⟩ : ∃ r, l[k]? = some r := ⟨l[k]'(by have := HN.out; omega), List.getElem?_eq_getElem _⟩
      rcases HI.out with h | ⟨b, off, rfl, hsrc⟩
      · subst h; simp at hr
      have hblt : b < w.heap.size := block_lt_of_cell (hsrc k r hr).1
      obtain ⟨q0, q1, q2, q3⟩ := hsrc k r hr
      have p0 : wr.cell? ⟨b, off + k * 4, none⟩ = some (.int .i64 r.rq) := by rw [hb.cell (p := ⟨b, off + k * 4, none⟩) hblt]; exact q0
      have p1 : wr.cell? ⟨b, off + k * 4 + 1, none⟩ = some (.bool r.hd) := by rw [hb.cell (p := ⟨b, off + k * 4 + 1, none⟩) hblt]; exact q1
      have p2 : wr.cell? ⟨b, off + k * 4 + 2, none⟩ = some (.int .i64 r.du) := by rw [hb.cell (p := ⟨b, off + k * 4 + 2, none⟩) hblt]; exact q2
      have p3 : wr.cell? ⟨b, off + k * 4 + 3, none⟩ = some (.bool r.lt) := by rw [hb.cell (p := ⟨b, off + k * 4 + 3, none⟩) hblt]; exact q3
      have HA : Hid (WrAt wr w.heap.size 0 (l.take k)) := hat
      have HM : Hid (RoomWr wr w.heap.size (n * 4)) := hroom
      have HR : Hid (l[k]? = some r) := hr
      have g : (k : Int) < n := by omega
      clear hat hroom hr hsrc q0 q1 q2 q3 HI
      go_wp2_with fail
      refine (toWr_any r _).mono ?_
      rintro e w2 ⟨rfl, hb2⟩
      have HA2 : Hid (WrAt w2 w.heap.size 0 (l.take k)) := HA.out.keep hb2
      have HM2 : Hid (RoomWr w2 w.heap.size (n * 4)) := HM.out.keep hb2
      have hbb : Below w.heap.size w w2 := hb.trans (hb2.mono hb.size)
      have hup2 : w.heap.size < w2.heap.size := Nat.lt_of_lt_of_le hup hb2.size
      obtain ⟨⟨u0, g0⟩, f0⟩ := HM2.out (k * 4) (by omega)
      obtain ⟨⟨u1, g1⟩, f1⟩ := HM2.out (k * 4 + 1) (by omega)
      obtain ⟨⟨u2, g2⟩, f2⟩ := HM2.out (k * 4 + 2) (by omega)
      obtain ⟨⟨u3, g3⟩, f3⟩ := HM2.out (k * 4 + 3) (by omega)
      have HP : Hid (WrAt (putWr w2 w.heap.size k r) w.heap.size 0 (l.take (k + 1)) ∧ RoomWr (putWr w2 w.heap.size k r) w.heap.size (n * 4)) := ⟨HA2.out.put HR.out HM2.out hlt, HM2.out.put k r⟩
      clear HA HM HA2 HM2 hb2 hb p0 p1 p2 p3
      obtain ⟨rrq, rhd, rdu, rlt⟩ := r
      go_wp2_with fail
      go_roundw
      case rel => exact ⟨k + 1, by omega, by go_num, HP.out.1, HP.out.2, by simpa using hup2, (((hbb.setCell (Nat.le_refl _) _).setCell (Nat.le_refl _) _).setCell (Nat.le_refl _) _).setCell (Nat.le_refl _) _⟩
      case measure => simp [intOf]; omega
    · have HF : Hid (WrAt wr w.heap.size 0 l ∧ RoomWr wr w.heap.size (n * 4)) := by
        have e : l.take k = l := List.take_of_length_le (by have := HN.out; omega)
        rw [e] at hat
        exact ⟨hat, hroom⟩
      clear hat hroom
      go_wp2_with fail
      go_ret
      exact ⟨rfl, HF.out.1, HF.out.2, hup, hb⟩
set_option maxRecDepth 100000 in
set_option maxHeartbeats 2000000 in
theorem eqWrS_same (w : World) (a1 a2 : Option Addr) (c1 c2 : Nat) (l : List Wr) (hl : l.length ≤ 1048576) (h1 : WrIn w a1 l) (h2 : WrIn w a2 l) :
    Calls Tryz.prog 88 #[.slice a1 l.length c1, .slice a2 l.length c2] w fun e w' => e = .returned (.bool true) ∧ Below w.heap.size w w' := by
  have H1 : Hid (WrIn w a1 l) := h1
  have H2 : Hid (WrIn w a2 l) := h2
  clear h1 h2
  generalize hn : l.length = n at *
  have HN : Hid (l.length = n) := hn
  clear hn
  go_enter Tryz.func88, Tryz.ntmps88
  go_wp2_with fail
  go_loopw [5] (fun i wr => ∃ k : Nat, k ≤ n ∧ i = .int .i64 k ∧ Below w.heap.size w wr) (fun i _ => n - (intOf i).toNat)
  case atStart => exact ⟨0, Nat.zero_le _, rfl, Below.refl _ _⟩
  case round =>
    obtain ⟨k, hk, rfl, hb⟩ := hrel
    by_cases hlt : k < n
    · obtain ⟨r, hr⟩ : ∃ r, l[k]? = some r := ⟨l[k]'(by have := HN.out; omega), List.getElem?_eq_getElem _⟩
      rcases (H1.out.keep hb) with h | ⟨b1, o1, rfl, at1⟩
      · subst h; simp at hr
      rcases (H2.out.keep hb) with h | ⟨b2, o2, rfl, at2⟩
      · subst h; simp at hr
      obtain ⟨p0, p1, p2, p3⟩ := at1 k r hr
      obtain ⟨q0, q1, q2, q3⟩ := at2 k r hr
      have x0 := cell_regrown p0
      have y0 := cell_regrown q0
      have x1 := cell_regrown p1
      have y1 := cell_regrown q1
      have x2 := cell_regrown p2
      have y2 := cell_regrown q2
      have x3 := cell_regrown p3
      have y3 := cell_regrown q3
      have cE : ∀ d os, Calls Tryz.prog 173 #[.agg #[.int .i64 r.rq, .bool r.hd, .int .i64 r.du, .bool r.lt], .agg #[.int .i64 r.rq, .bool r.hd, .int .i64 r.du, .bool r.lt]] (grow (redrawn wr d) os) fun e w'' => e = .returned (.bool true) ∧ ∃ p : Regrown, w'' = grow (redrawn wr p.d) p.os := fun d os => Calls.regrown_of (eqWr_same r _)
      have g0 : (0 : Int) ≤ k := by omega
      have g : (k : Int) < n := by omega
      clear hr p0 p1 p2 p3 q0 q1 q2 q3 at1 at2
      generalize r.rq = rrq at *
      generalize r.hd = rhd at *
      generalize r.du = rdu at *
      generalize r.lt = rlt at *
      go_wp2_with fail
      refine wp_region_quiet_below (by kernel_rfl) (by kernel_rfl) ?_
      repeat (go_big_quiet_step ((go_at_call 173; exact cE _ _)))
      refine wpQuiet_nil ?_
      intro w2 hw2
      have hbb : Below w.heap.size w w2 := by
        obtain ⟨⟨d, os⟩, rfl⟩ := hw2
        exact hb.trans ((below_regrown wr d os).mono hb.size)
      clear x0 y0 x1 y1 x2 y2 x3 y3 cE hw2 hb
      go_wp2_with fail
      go_roundw
      case rel => exact ⟨k + 1, by omega, by go_num, hbb⟩
      case measure => simp [intOf]; omega
    · go_wp2_with fail
      go_ret
      exact ⟨rfl, hb⟩
end Go.Proofs.YtacninhhkbglaaaGreatDoor
/-
  Head lines in memory; the laws' own helpers over them.
-/
namespace Go.Proofs.YtacninhhkbglaaaGreatDoor
open Go.ChangeShapes Go.WideShapes Go.ChangeAt Go.RowKit
/-- A head line: its name and its value. -/
structure Hdr where
  name : ByteArray
  value : ByteArray
/-- The lines l lie in block b from off on, two cells each. -/
def HeadsAt (w : World) (b off : Nat) (l : List Hdr) : Prop :=
  ∀ (i : Nat) r, l[i]? = some r → w.cell? ⟨b, off + i * 2, none⟩ = some (.string r.name) ∧ w.cell? ⟨b, off + i * 2 + 1, none⟩ = some (.string r.value)
def hdrV (r : Hdr) : Value := .agg #[.string r.name, .string r.value]
def szH (left : Int) (r : Hdr) : Int := if left - (r.name.size : Int) < 0 then -1 else if left - (r.name.size : Int) - (r.value.size : Int) < 0 then -1 else left - (r.name.size : Int) - (r.value.size : Int)
set_option maxHeartbeats 400000 in
theorem szHeader_any (r : Hdr) (left : Int) (w : World) (h0 : 0 ≤ left) (h1 : left ≤ 1048576) (z1 : r.name.size ≤ maxLen) (z2 : r.value.size ≤ maxLen) :
    Calls Tryz.prog 211 #[.agg #[.string r.name, .string r.value], .int .i64 left] w fun e w' => e = .returned (.int .i64 (szH left r)) ∧ Below w.heap.size w w' := by
  unfold maxLen at z1 z2
  obtain ⟨n, v⟩ := r
  simp only at z1 z2 ⊢
  by_cases c1 : left - (n.size : Int) < 0
  · have HE : Hid (szH left ⟨n, v⟩ = -1) := by show _ = _; simp [szH, c1]
    go_enter Tryz.func211, Tryz.ntmps211
    go_wp2
    go_ret
    exact ⟨ret_int HE.out.symm, (Below.refl _ _).alloc (Nat.le_refl _) _⟩
  · by_cases c2 : left - (n.size : Int) - (v.size : Int) < 0
    · have HE : Hid (szH left ⟨n, v⟩ = -1) := by show _ = _; simp [szH, c1, c2]
      go_enter Tryz.func211, Tryz.ntmps211
      go_wp2
      go_ret
      exact ⟨ret_int HE.out.symm, (Below.refl _ _).alloc (Nat.le_refl _) _⟩
    · have HE : Hid (szH left ⟨n, v⟩ = left - (n.size : Int) - (v.size : Int)) := by show _ = _; simp [szH, c1, c2]
      go_enter Tryz.func211, Tryz.ntmps211
      go_wp2
      go_ret
      exact ⟨ret_int HE.out.symm, (Below.refl _ _).alloc (Nat.le_refl _) _⟩
set_option maxHeartbeats 400000 in
theorem toHeader_any (r : Hdr) (w : World) :
    Calls Tryz.prog 215 #[.agg #[.string r.name, .string r.value]] w fun e w' => e = .returned (.agg #[.string r.name, .string r.value]) ∧ Below w.heap.size w w' := by
  obtain ⟨n, v⟩ := r
  simp only
  go_enter Tryz.func215, Tryz.ntmps215
  go_wp2
  exact bodyPost_ret (v := .agg #[.string n, .string v]) (by simp [results, Tryz.results215, go_sem]) rfl ⟨rfl, (((Below.refl _ _).alloc (Nat.le_refl _) _).alloc (by simp) _).alloc (by simp; omega) _⟩
set_option maxHeartbeats 400000 in
theorem eqHeader_same (r : Hdr) (w : World) :
    Calls Tryz.prog 219 #[.agg #[.string r.name, .string r.value], .agg #[.string r.name, .string r.value]] w fun e w' => e = .returned (.bool true) ∧ Below w.heap.size w w' := by
  obtain ⟨n, v⟩ := r
  simp only
  go_enter Tryz.func219, Tryz.ntmps219
  go_wp2
  go_ret
  exact ⟨rfl, ((Below.refl _ _).alloc (Nat.le_refl _) _).alloc (by simp) _⟩
/-- How much room is left behind the items; -1: none. -/
def szHs (left : Int) : List Hdr → Int
  | [] => left
  | r :: l => if szH left r < 0 then -1 else szHs (szH left r) l
def szHL (left : Int) (l : List Hdr) : Int := if left - (l.length : Int) < 0 then -1 else szHs (left - (l.length : Int)) l
def SmallHdrs (l : List Hdr) : Prop := ∀ (i : Nat) r, l[i]? = some r → r.name.size ≤ maxLen ∧ r.value.size ≤ maxLen
theorem HeadsAt.keep {w w' : World} {b off : Nat} {l : List Hdr} (h : HeadsAt w b off l) (hb : Below w.heap.size w w') : HeadsAt w' b off l := by
  intro i r hr
  obtain ⟨a1, a3⟩ := h i r hr
  exact ⟨by rw [hb.cell (block_lt_of_cell a1)]; exact a1, by rw [hb.cell (block_lt_of_cell a3)]; exact a3⟩
theorem szH_le (left : Int) (r : Hdr) : szH left r ≤ left ∨ szH left r = -1 := by
  unfold szH
  split
  · exact .inr rfl
  · split
    · exact .inr rfl
    · left; omega
theorem drop_hdr (l : List Hdr) (k : Nat) (r : Hdr) (h : l[k]? = some r) : l.drop k = r :: l.drop (k + 1) := by
  obtain ⟨hk, rfl⟩ := List.getElem?_eq_some_iff.1 h
  exact List.drop_eq_getElem_cons hk
set_option maxHeartbeats 2000000 in
theorem szHeaderS_any (w : World) (a : Option Addr) (cap : Nat) (l : List Hdr) (hl : l.length ≤ maxLen) (hi : l = [] ∨ ∃ b off, a = some ⟨b, off, none⟩ ∧ HeadsAt w b off l) (hz : SmallHdrs l) (left : Int) (h0 : 0 ≤ left) (h1 : left ≤ 1048576) :
    Calls Tryz.prog 159 #[.slice a l.length cap, .int .i64 left] w fun e w' => e = .returned (.int .i64 (szHL left l)) ∧ Below w.heap.size w w' := by
  unfold maxLen at hl
  have HI : Hid (l = [] ∨ ∃ b off, a = some ⟨b, off, none⟩ ∧ HeadsAt w b off l) := hi
  have HZ : Hid (SmallHdrs l) := hz
  clear hi hz
  generalize hn : l.length = n at *
  have HN : Hid (l.length = n) := hn
  by_cases c0 : left - (n : Int) < 0
  · have HE : Hid (szHL left l = -1) := by show _ = _; unfold szHL; rw [hn, if_pos c0]
    clear hn
    go_enter Tryz.func159, Tryz.ntmps159
    go_wp2
    go_ret
    exact ⟨ret_int HE.out.symm, Below.refl _ _⟩
  have HE : Hid (szHL left l = szHs (left - (n : Int)) l) := by show _ = _; unfold szHL; rw [hn, if_neg c0]
  have c0' : 0 ≤ left - (n : Int) := by omega
  clear hn
  go_enter Tryz.func159, Tryz.ntmps159
  go_wp2_with fail
  go_loopw [1, 5] (fun x i wr => ∃ (k : Nat) (c : Int), k ≤ n ∧ i = .int .i64 k ∧ x = .int .i64 c ∧ 0 ≤ c ∧ c ≤ 1048576 ∧ szHL left l = szHs c (l.drop k) ∧ Below w.heap.size w wr) (fun _ i _ => n - (intOf i).toNat)
  case atStart => exact ⟨0, left - (n : Int), Nat.zero_le _, rfl, rfl, c0', by omega, HE.out, Below.refl _ _⟩
  case round =>
    obtain ⟨k, c, hk, rfl, rfl, c2, c3, hs, hb⟩ := hrel
    have HS : Hid (szHL left l = szHs c (l.drop k)) := hs
    clear hs HE
    by_cases hlt : k < n
    · obtain ⟨r, hr⟩ : ∃ r, l[k]? = some r := ⟨l[k]'(by have := HN.out; omega), List.getElem?_eq_getElem _⟩
      rcases HI.out with h | ⟨b, off, rfl, hat⟩
      · subst h; simp at hr
      obtain ⟨p1, p3⟩ := (hat.keep hb) k r hr
      obtain ⟨z1, z2⟩ := HZ.out k r hr
      have HS2 : Hid (szHL left l = if szH c r < 0 then -1 else szHs (szH c r) (l.drop (k + 1))) := by
        show _ = _
        rw [HS.out, drop_hdr l k r hr, szHs]
      have HC : Hid (∀ w, Calls Tryz.prog 211 #[.agg #[.string r.name, .string r.value], .int .i64 c] w fun e w' => e = .returned (.int .i64 (szH c r)) ∧ Below w.heap.size w w') := fun w => szHeader_any r c w c2 c3 z1 z2
      have hle := szH_le c r
      have g : (k : Int) < n := by omega
      clear HS hr hat z1 z2 HI
      generalize szH c r = d at *
      generalize r.name = rn at *
      generalize r.value = rv at *
      go_wp2_with fail
      refine (HC.out _).mono ?_
      rintro e w2 ⟨rfl, hb2⟩
      have hbb : Below w.heap.size w w2 := hb.trans (hb2.mono hb.size)
      clear hb2 hb p1 p3 HC
      by_cases hd : d < 0
      · have HF : Hid (szHL left l = -1) := by show _ = _; rw [HS2.out, if_pos hd]
        clear HS2
        go_wp2_with fail
        go_ret
        exact ⟨ret_int HF.out.symm, hbb⟩
      · have HF : Hid (szHL left l = szHs d (l.drop (k + 1))) := by show _ = _; rw [HS2.out, if_neg hd]
        clear HS2
        go_wp2_with fail
        go_roundw
        case rel => exact ⟨k + 1, d, by omega, by go_num, rfl, by omega, by omega, HF.out, hbb⟩
        case measure => simp [intOf]; omega
    · have HF : Hid (szHL left l = c) := by
        show _ = _
        rw [HS.out, List.drop_of_length_le (by have := HN.out; omega), szHs]
      clear HS
      go_wp2_with fail
      go_ret
      exact ⟨ret_int HF.out.symm, hb⟩
end Go.Proofs.YtacninhhkbglaaaGreatDoor
/-
  The laws' copy of a list of items, and their comparing of two.
-/
namespace Go.Proofs.YtacninhhkbglaaaGreatDoor
open Go.ChangeShapes Go.WideShapes Go.ChangeAt Go.RowKit Go.Sort
/-- m cells from the head of block G on are there and may be written. -/
def HRoom (w : World) (G m : Nat) : Prop := ∀ j, j < m → (∃ u, w.cell? ⟨G, j, none⟩ = some u) ∧ w.frozen? ⟨G, j, none⟩ = false
theorem HRoom.keep {w w' : World} {G m : Nat} (h : HRoom w G m) (hb : Below w.heap.size w w') : HRoom w' G m := by
  intro j hj
  obtain ⟨⟨u, hu⟩, hf⟩ := h j hj
  exact ⟨⟨u, by rw [hb.cell (block_lt_of_cell hu)]; exact hu⟩, by rw [hb.frozen (block_lt_of_cell hu)]; exact hf⟩
theorem HRoom.set {w : World} {G m : Nat} (h : HRoom w G m) (a : Addr) (v : Value) : HRoom (w.setCell a v) G m := by
  intro j hj
  obtain ⟨⟨u, hu⟩, hf⟩ := h j hj
  refine ⟨?_, by rw [World.frozen?_setCell]; exact hf⟩
  by_cases e : a = ⟨G, j, none⟩
  · exact ⟨v, by subst e; exact World.cell?_setCell_same _ _ _ hu⟩
  · exact ⟨u, by rw [World.cell?_setCell_other _ _ _ _ e]; exact hu⟩
def put2 (w : World) (G k : Nat) (r : Hdr) : World := (w.setCell ⟨G, k * 2, none⟩ (.string r.name)).setCell ⟨G, k * 2 + 1, none⟩ (.string r.value)
theorem hoff_ne {G i j : Nat} (h : i ≠ j) : (⟨G, i, none⟩ : Addr) ≠ ⟨G, j, none⟩ := fun e => h (congrArg Addr.off e)
theorem put2_other (w : World) (G k : Nat) (r : Hdr) (j : Nat) (h0 : k * 2 ≠ j) (h1 : k * 2 + 1 ≠ j) : (put2 w G k r).cell? ⟨G, j, none⟩ = w.cell? ⟨G, j, none⟩ := by
  unfold put2
  rw [World.cell?_setCell_other _ _ _ _ (hoff_ne h1), World.cell?_setCell_other _ _ _ _ (hoff_ne h0)]
theorem HRoom.put {w : World} {G m : Nat} (h : HRoom w G m) (k : Nat) (r : Hdr) : HRoom (put2 w G k r) G m := (h.set _ _).set _ _
theorem HeadsAt.put {w : World} {G n : Nat} {l : List Hdr} {k : Nat} {r : Hdr} (h : HeadsAt w G 0 (l.take k)) (hr : l[k]? = some r) (hm : HRoom w G (n * 2)) (hk : k < n) : HeadsAt (put2 w G k r) G 0 (l.take (k + 1)) := by
  intro i q hq
  have hi : i < k + 1 := by
    have := (List.getElem?_eq_some_iff.1 hq).1
    simp at this; omega
  rw [List.getElem?_take_of_lt hi] at hq
  simp only [Nat.zero_add]
  by_cases e : i = k
  · subst e
    rw [hr] at hq
    obtain rfl := Option.some.inj hq
    obtain ⟨⟨u0, g0⟩, _⟩ := hm (i * 2) (by omega)
    obtain ⟨⟨u1, g1⟩, _⟩ := (hm.set ⟨G, i * 2, none⟩ (.string r.name)) (i * 2 + 1) (by omega)
    unfold put2
    refine ⟨?_, World.cell?_setCell_same _ _ _ g1⟩
    rw [World.cell?_setCell_other _ _ _ _ (hoff_ne (by omega))]
    exact World.cell?_setCell_same _ _ _ g0
  · have hq2 : (l.take k)[i]? = some q := by rw [List.getElem?_take_of_lt (by omega)]; exact hq
    obtain ⟨a1, a3⟩ := h i q hq2
    simp only [Nat.zero_add] at a1 a3
    exact ⟨by rw [put2_other _ _ _ _ _ (by omega) (by omega)]; exact a1, by rw [put2_other _ _ _ _ _ (by omega) (by omega)]; exact a3⟩
theorem infoHeader : (Tryz.prog.info? 287).map (fun i => (i.zero, i.size, i.bytes)) = some (some (.agg #[.string ⟨#[]⟩, .string ⟨#[]⟩]), 2, 32) := by kernel_rfl
set_option maxHeartbeats 2000000 in
theorem toHeaderS_any (w : World) (a : Option Addr) (cap : Nat) (l : List Hdr) (hl : l.length ≤ 1048576) (hi : l = [] ∨ ∃ b off, a = some ⟨b, off, none⟩ ∧ HeadsAt w b off l) :
    Calls Tryz.prog 162 #[.slice a l.length cap] w fun e w' => e = .returned (.slice (some ⟨w.heap.size, 0, none⟩) l.length l.length) ∧ HeadsAt w' w.heap.size 0 l ∧ Below w.heap.size w w' := by
  have HI : Hid (l = [] ∨ ∃ b off, a = some ⟨b, off, none⟩ ∧ HeadsAt w b off l) := hi
  obtain ⟨i0, hi0, hz0, hz1, hz2⟩ := info_parts infoHeader
  clear hi
  generalize hn : l.length = n at *
  have HN : Hid (l.length = n) := hn
  clear hn
  go_enter Tryz.func162, Tryz.ntmps162
  go_wp2_with (at_make; refine wpList_make_full w rfl _ _ 81 rfl w.heap.size 287 i0 _ 2 Tryz.underlying81 hi0 hz0 hz1 _ _ _ _ n rfl rfl rfl rfl (by rw [hz2]; omega) (by unfold maxLen; omega) (Nat.le_refl _) ?_; intro w1 hown hgrow)
  have HR1 : Hid (HRoom w1 w.heap.size (n * 2) ∧ Below w.heap.size w w1) := by
    refine ⟨fun j hj => ⟨?_, hown.frozenAt j⟩, (Below.refl _ _).grown hgrow (Nat.le_refl _) (fun q hq => by cases hq)⟩
    have h1 := hown.cellAt j hj
    have h2 : j < (madeCells (Value.agg #[.string ⟨#[]⟩, .string ⟨#[]⟩]).cells (n * 2)).toList.length := by have := hown.1; omega
    exact ⟨_, h1.trans (List.getElem?_eq_getElem h2)⟩
  clear hown hgrow
  go_loopw [4] (fun i wr => ∃ k : Nat, k ≤ n ∧ i = .int .i64 k ∧ HeadsAt wr w.heap.size 0 (l.take k) ∧ HRoom wr w.heap.size (n * 2) ∧ Below w.heap.size w wr) (fun i _ => n - (intOf i).toNat)
  case atStart => exact ⟨0, Nat.zero_le _, rfl, fun i r hr => by simp at hr, HR1.out.1, HR1.out.2⟩
  case round =>
    obtain ⟨k, hk, rfl, hat, hroom, hb⟩ := hrel
    clear HR1
    by_cases hlt : k < n
    · obtain ⟨r, hr⟩ : ∃ r, l[k]? = some r := ⟨l[k]'(by have := HN.out; omega), List.getElem?_eq_getElem _⟩
      rcases HI.out with h | ⟨b, off, rfl, hsrc⟩
      · subst h; simp at hr
      have hblt : b < w.heap.size := block_lt_of_cell (hsrc k r hr).1
      have hkeep := (hsrc.keep (w' := w) (Below.refl _ _)) k r hr
      have p1 : wr.cell? ⟨b, off + k * 2, none⟩ = some (.string r.name) := by rw [hb.cell (p := ⟨b, off + k * 2, none⟩) hblt]; exact hkeep.1
      have p3 : wr.cell? ⟨b, off + k * 2 + 1, none⟩ = some (.string r.value) := by rw [hb.cell (p := ⟨b, off + k * 2 + 1, none⟩) hblt]; exact hkeep.2
      have HA : Hid (HeadsAt wr w.heap.size 0 (l.take k)) := hat
      have HM : Hid (HRoom wr w.heap.size (n * 2)) := hroom
      have HR : Hid (l[k]? = some r) := hr
      have g : (k : Int) < n := by omega
      clear hat hroom hr hsrc hkeep HI
      go_wp2_with fail
      refine (toHeader_any r _).mono ?_
      rintro e w2 ⟨rfl, hb2⟩
      have HA2 : Hid (HeadsAt w2 w.heap.size 0 (l.take k)) := HA.out.keep hb2
      have HM2 : Hid (HRoom w2 w.heap.size (n * 2)) := HM.out.keep hb2
      have hbb : Below w.heap.size w w2 := hb.trans (hb2.mono hb.size)
      obtain ⟨⟨u0, g0⟩, f0⟩ := HM2.out (k * 2) (by omega)
      obtain ⟨⟨u1, g1⟩, f1⟩ := HM2.out (k * 2 + 1) (by omega)
      have HP : Hid (HeadsAt (put2 w2 w.heap.size k r) w.heap.size 0 (l.take (k + 1)) ∧ HRoom (put2 w2 w.heap.size k r) w.heap.size (n * 2)) := ⟨HA2.out.put HR.out HM2.out hlt, HM2.out.put k r⟩
      clear HA HM HA2 HM2 hb2 hb p1 p3
      obtain ⟨rn, rv⟩ := r
      go_wp2_with fail
      go_roundw
      case rel => exact ⟨k + 1, by omega, by go_num, HP.out.1, HP.out.2, (hbb.setCell (Nat.le_refl _) _).setCell (Nat.le_refl _) _⟩
      case measure => simp [intOf]; omega
    · have HF : Hid (HeadsAt wr w.heap.size 0 l) := by
        have e : l.take k = l := List.take_of_length_le (by have := HN.out; omega)
        rw [e] at hat
        exact hat
      clear hat hroom
      go_wp2_with fail
      go_ret
      exact ⟨rfl, HF.out, hb⟩
end Go.Proofs.YtacninhhkbglaaaGreatDoor
/-
  Appending, for whatever element: what is appended may be nil.
-/
namespace Go.Proofs.YtacninhhkbglaaaGreatDoor
open Go.ChangeShapes Go.WideShapes Go.ChangeAt Go.RowKit Go.Sort
theorem row_ge {w : World} {base : Nat} {e : TypeId} {size : Nat} {v : Value} {n : Nat} {xs : List Value} (h : w.ownsRow base e size v n xs) (q : Nat) (hq : v.ownBlock = some q) : base ≤ q := (World.ownsRow.lt h q hq).1
theorem row_form {w : World} {base : Nat} {e : TypeId} {size : Nat} {v : Value} {n : Nat} {xs : List Value} (h : w.ownsRow base e size v n xs) : ∃ va vc, v = .slice va n vc ∧ n ≤ vc := by
  obtain ⟨_, h1 | ⟨g, c2, cur, e2, _, _, hc2, _⟩⟩ := h
  · obtain ⟨rfl, rfl⟩ := h1
    exact ⟨none, 0, rfl, Nat.le_refl _⟩
  · exact ⟨_, c2, e2, hc2⟩
theorem row_below {w w' : World} {base : Nat} {e : TypeId} {size : Nat} {v : Value} {n : Nat} {xs : List Value} (h : w.ownsRow base e size v n xs) (hb : Below w.heap.size w w') : w'.ownsRow base e size v n xs := by
  obtain ⟨h1, h2⟩ := h
  refine ⟨h1, ?_⟩
  rcases h2 with h2 | ⟨g, c, cur, e, hg, hh, hrest⟩
  · exact .inl h2
  · exact .inr ⟨g, c, cur, e, hg, by rw [hb.block g (Array.getElem?_eq_some_iff.1 hh).1]; exact hh, hrest⟩
theorem row_lower {w : World} {b0 base : Nat} {e : TypeId} {size : Nat} {v : Value} {n : Nat} {xs : List Value} (h : w.ownsRow base e size v n xs) (hb : b0 ≤ base) : w.ownsRow b0 e size v n xs := by
  obtain ⟨h1, h2⟩ := h
  refine ⟨h1, ?_⟩
  rcases h2 with h2 | ⟨g, c, cur, e, hg, hrest⟩
  · exact .inl h2
  · exact .inr ⟨g, c, cur, e, by omega, hrest⟩
theorem row_zero {P : Program} (w : World) (t ty e : TypeId) (i : TypeInfo) (ht : P.underlying t = some (.slice e)) (hi : P.info? e = some i) (base : Option Addr) (n k : Nat) (hle : n ≤ k) (pb : Option Addr) (c : Nat) :
    (Builtin.append_ #[t, t] ty #[.slice base n k, .slice pb 0 c]).run P w = .ok (.slice base n k) w := by
  cases base <;> cases pb <;> simp [Builtin.append_, run_underlying ht, sizeOf, typeInfo, hi, Builtin.lenOf, Builtin.firstCells, hle, storeCells, loadCells, loadCellsFrom]
section
variable {P : Program}
theorem wp_append_in {o : Oper} {a : Act} {K : Act → World → Prop} {Q : Exit → Act → World → Prop} (w : World) (s x : Operand) (t e : TypeId)
    (ho : o.op = .call { callee := .builtin .append, args := #[s, x], argTypes := #[t, t] })
    (i : TypeInfo) (z : Value) (size bytes : Nat) (ht : P.underlying t = some (.slice e)) (hi : P.info? e = some i) (hz : i.zero = some z) (hsize : i.size = size) (hby : i.bytes = bytes) (hzs : z.cells.size = size) (hsz : 0 < size)
    (base : Nat) (v : Value) (n : Nat) (xs : List Value) (hs : a.eval s = v) (hown : w.ownsRow base e size v n xs)
    (pa : Option Addr) (cap m : Nat) (news : List Value) (hx : a.eval x = .slice pa m cap) (hl : news.length = m * size) (hnews : m = 0 ∨ ∃ ad, pa = some ad ∧ ∀ j u, news[j]? = some u → w.cell? (ad.add j) = some u) (h1 : ∀ u ∈ news, u.oneCell' = true)
    (h63 : n + m ≤ maxLen) (hbytes : (n + m) * bytes ≤ 140737488355328) (hbase : base ≤ w.heap.size)
    (h : ∀ v' w', w'.ownsRow base e size v' (n + m) (xs ++ news) → Below base w w' → (∀ b o, b < w.heap.size → v.ownBlock ≠ some b → w'.cell? ⟨b, o, none⟩ = w.cell? ⟨b, o, none⟩ ∧ w'.frozen? ⟨b, o, none⟩ = w.frozen? ⟨b, o, none⟩) → K (a.put o.dst v') w') :
    Oper.wp P o a w K Q := by
  by_cases h0 : m = 0
  · subst h0
    obtain ⟨va, vc, rfl, hle⟩ := row_form hown
    have en : news = [] := List.eq_nil_of_length_eq_zero (by rw [hl, Nat.zero_mul])
    subst en
    unfold Oper.wp execOp
    simp only [ho, resolve, invoke, builtin, Sem.run_bind, Sem.run_pure, Result.andThen_ok, List.map_toArray, List.map_cons, List.map_nil, hs, hx]
    rw [row_zero w t _ e i ht hi va n vc hle pa cap]
    exact h _ w (by simpa using hown) (Below.refl _ _) (fun _ _ _ _ => ⟨rfl, rfl⟩)
  · rcases hnews with hnews | ⟨ad, rfl, hnews⟩
    · exact absurd hnews h0
    · refine wp_append_lies w s x t ho base e i z size bytes ht hi hz hsize hby hzs hsz v n xs hs hown ad m cap news hx hl hnews h1 (by omega) h63 hbytes hbase _ rfl ?_
      intro g c w' h1 h2 h3 h4
      exact h _ w' h1 ((Below.refl base w).grown h2 hbase (fun q hq => row_ge hown q hq)) (fun b o hb hne => ⟨h2.cell_far ⟨b, o, none⟩ hb hne.symm, h2.frozen_far ⟨b, o, none⟩ hb hne.symm⟩)
theorem step_append_in {ops : Array Oper} {o : Oper} {a : Act} {K : Act → World → Prop} {Q : Exit → Act → World → Prop} {E : Prop} (w : World) (hgd : o.guard = none) (s x : Operand) (t e : TypeId)
    (ho : o.op = .call { callee := .builtin .append, args := #[s, x], argTypes := #[t, t] })
    (i : TypeInfo) (z : Value) (size bytes : Nat) (ht : P.underlying t = some (.slice e)) (hi : P.info? e = some i) (hz : i.zero = some z) (hsize : i.size = size) (hby : i.bytes = bytes) (hzs : z.cells.size = size) (hsz : 0 < size)
    (base : Nat) (v : Value) (n : Nat) (xs : List Value) (hs : a.eval s = v) (hown : w.ownsRow base e size v n xs)
    (pa : Option Addr) (cap m : Nat) (news : List Value) (hx : a.eval x = .slice pa m cap) (hl : news.length = m * size) (hnews : m = 0 ∨ ∃ ad, pa = some ad ∧ ∀ j u, news[j]? = some u → w.cell? (ad.add j) = some u) (h1 : ∀ u ∈ news, u.oneCell' = true)
    (h63 : n + m ≤ maxLen) (hbytes : (n + m) * bytes ≤ 140737488355328) (hbase : base ≤ w.heap.size)
    (h : ∀ v' w', w'.ownsRow base e size v' (n + m) (xs ++ news) → Below base w w' → (∀ b o, b < w.heap.size → v.ownBlock ≠ some b → w'.cell? ⟨b, o, none⟩ = w.cell? ⟨b, o, none⟩ ∧ w'.frozen? ⟨b, o, none⟩ = w.frozen? ⟨b, o, none⟩) → K (a.put o.dst v') w') :
    if Region.wanted o (yielded ops a.tmps) = true then Oper.wp P o a w K Q else E := by
  have hw : Region.wanted o (yielded ops a.tmps) = true := by simp [Region.wanted, hgd]
  rw [if_pos hw]
  exact wp_append_in w s x t e ho i z size bytes ht hi hz hsize hby hzs hsz base v n xs hs hown pa cap m news hx hl hnews h1 h63 hbytes hbase h
end
end Go.Proofs.YtacninhhkbglaaaGreatDoor
/-
  Four cells that may be written.
-/
namespace Go.Proofs.YtacninhhkbglaaaGreatDoor
open Go.ChangeShapes Go.WideShapes Go.ChangeAt Go.RowKit
structure S4 (w : World) (b : Nat) (v0 v1 v2 v3 : Value) : Prop where
  c0 : w.cell? ⟨b, 0, none⟩ = some v0
  c1 : w.cell? ⟨b, 1, none⟩ = some v1
  c2 : w.cell? ⟨b, 2, none⟩ = some v2
  c3 : w.cell? ⟨b, 3, none⟩ = some v3
  fr : ∀ o, w.frozen? ⟨b, o, none⟩ = false
  lt : b < w.heap.size
section
variable {w w' : World} {b : Nat} {v0 v1 v2 v3 : Value}
theorem S4.keep (k : S4 w b v0 v1 v2 v3) (hb : Below w.heap.size w w') : S4 w' b v0 v1 v2 v3 :=
  ⟨by rw [hb.cell (p := ⟨b, 0, none⟩) k.lt]; exact k.c0, by rw [hb.cell (p := ⟨b, 1, none⟩) k.lt]; exact k.c1, by rw [hb.cell (p := ⟨b, 2, none⟩) k.lt]; exact k.c2, by rw [hb.cell (p := ⟨b, 3, none⟩) k.lt]; exact k.c3, fun o => by rw [hb.frozen (p := ⟨b, o, none⟩) k.lt]; exact k.fr o, Nat.lt_of_lt_of_le k.lt hb.size⟩
theorem S4.new (w : World) (v0 v1 v2 v3 : Value) (t : TypeId) : S4 (w.alloc (.cells #[v0, v1, v2, v3] t)) w.heap.size v0 v1 v2 v3 := ⟨by simp, by simp, by simp, by simp, fun o => by simp, by simp⟩
theorem S4.off (k : S4 w b v0 v1 v2 v3) {B i : Nat} {x : Value} (h : B ≠ b) : S4 (w.setCell ⟨B, i, none⟩ x) b v0 v1 v2 v3 := by
  have ne : ∀ o : Nat, (⟨B, i, none⟩ : Addr) ≠ ⟨b, o, none⟩ := fun o q => h (congrArg Addr.block q)
  exact ⟨by rw [World.cell?_setCell_other _ _ _ _ (ne _)]; exact k.c0, by rw [World.cell?_setCell_other _ _ _ _ (ne _)]; exact k.c1, by rw [World.cell?_setCell_other _ _ _ _ (ne _)]; exact k.c2, by rw [World.cell?_setCell_other _ _ _ _ (ne _)]; exact k.c3, fun o => by rw [World.frozen?_setCell]; exact k.fr o, by simpa using k.lt⟩
theorem S4.set0 (k : S4 w b v0 v1 v2 v3) (x : Value) : S4 (w.setCell ⟨b, 0, none⟩ x) b x v1 v2 v3 :=
  ⟨World.cell?_setCell_same _ _ _ k.c0, by rw [World.cell?_setCell_other _ _ _ _ (by intro q; have := congrArg Addr.off q; simp at this)]; exact k.c1, by rw [World.cell?_setCell_other _ _ _ _ (by intro q; have := congrArg Addr.off q; simp at this)]; exact k.c2, by rw [World.cell?_setCell_other _ _ _ _ (by intro q; have := congrArg Addr.off q; simp at this)]; exact k.c3, fun o => by rw [World.frozen?_setCell]; exact k.fr o, by simpa using k.lt⟩
theorem S4.set1 (k : S4 w b v0 v1 v2 v3) (x : Value) : S4 (w.setCell ⟨b, 1, none⟩ x) b v0 x v2 v3 :=
  ⟨by rw [World.cell?_setCell_other _ _ _ _ (by intro q; have := congrArg Addr.off q; simp at this)]; exact k.c0, World.cell?_setCell_same _ _ _ k.c1, by rw [World.cell?_setCell_other _ _ _ _ (by intro q; have := congrArg Addr.off q; simp at this)]; exact k.c2, by rw [World.cell?_setCell_other _ _ _ _ (by intro q; have := congrArg Addr.off q; simp at this)]; exact k.c3, fun o => by rw [World.frozen?_setCell]; exact k.fr o, by simpa using k.lt⟩
theorem S4.set2 (k : S4 w b v0 v1 v2 v3) (x : Value) : S4 (w.setCell ⟨b, 2, none⟩ x) b v0 v1 x v3 :=
  ⟨by rw [World.cell?_setCell_other _ _ _ _ (by intro q; have := congrArg Addr.off q; simp at this)]; exact k.c0, by rw [World.cell?_setCell_other _ _ _ _ (by intro q; have := congrArg Addr.off q; simp at this)]; exact k.c1, World.cell?_setCell_same _ _ _ k.c2, by rw [World.cell?_setCell_other _ _ _ _ (by intro q; have := congrArg Addr.off q; simp at this)]; exact k.c3, fun o => by rw [World.frozen?_setCell]; exact k.fr o, by simpa using k.lt⟩
theorem S4.set3 (k : S4 w b v0 v1 v2 v3) (x : Value) : S4 (w.setCell ⟨b, 3, none⟩ x) b v0 v1 v2 x :=
  ⟨by rw [World.cell?_setCell_other _ _ _ _ (by intro q; have := congrArg Addr.off q; simp at this)]; exact k.c0, by rw [World.cell?_setCell_other _ _ _ _ (by intro q; have := congrArg Addr.off q; simp at this)]; exact k.c1, by rw [World.cell?_setCell_other _ _ _ _ (by intro q; have := congrArg Addr.off q; simp at this)]; exact k.c2, World.cell?_setCell_same _ _ _ k.c3, fun o => by rw [World.frozen?_setCell]; exact k.fr o, by simpa using k.lt⟩
end
end Go.Proofs.YtacninhhkbglaaaGreatDoor
/-
  Five cells that may be written.
-/
namespace Go.Proofs.YtacninhhkbglaaaGreatDoor
open Go.ChangeShapes Go.WideShapes Go.ChangeAt Go.RowKit
structure S5 (w : World) (b : Nat) (v0 v1 v2 v3 v4 : Value) : Prop where
  c0 : w.cell? ⟨b, 0, none⟩ = some v0
  c1 : w.cell? ⟨b, 1, none⟩ = some v1
  c2 : w.cell? ⟨b, 2, none⟩ = some v2
  c3 : w.cell? ⟨b, 3, none⟩ = some v3
  c4 : w.cell? ⟨b, 4, none⟩ = some v4
  fr : ∀ o, w.frozen? ⟨b, o, none⟩ = false
  lt : b < w.heap.size
section
variable {w w' : World} {b : Nat} {v0 v1 v2 v3 v4 : Value}
theorem S5.keep (k : S5 w b v0 v1 v2 v3 v4) (hb : Below w.heap.size w w') : S5 w' b v0 v1 v2 v3 v4 :=
  ⟨by rw [hb.cell (p := ⟨b, 0, none⟩) k.lt]; exact k.c0, by rw [hb.cell (p := ⟨b, 1, none⟩) k.lt]; exact k.c1, by rw [hb.cell (p := ⟨b, 2, none⟩) k.lt]; exact k.c2, by rw [hb.cell (p := ⟨b, 3, none⟩) k.lt]; exact k.c3, by rw [hb.cell (p := ⟨b, 4, none⟩) k.lt]; exact k.c4, fun o => by rw [hb.frozen (p := ⟨b, o, none⟩) k.lt]; exact k.fr o, Nat.lt_of_lt_of_le k.lt hb.size⟩
theorem S5.new (w : World) (v0 v1 v2 v3 v4 : Value) (t : TypeId) : S5 (w.alloc (.cells #[v0, v1, v2, v3, v4] t)) w.heap.size v0 v1 v2 v3 v4 := ⟨by simp, by simp, by simp, by simp, by simp, fun o => by simp, by simp⟩
theorem S5.off (k : S5 w b v0 v1 v2 v3 v4) {B i : Nat} {x : Value} (h : B ≠ b) : S5 (w.setCell ⟨B, i, none⟩ x) b v0 v1 v2 v3 v4 := by
  have ne : ∀ o : Nat, (⟨B, i, none⟩ : Addr) ≠ ⟨b, o, none⟩ := fun o q => h (congrArg Addr.block q)
  exact ⟨by rw [World.cell?_setCell_other _ _ _ _ (ne _)]; exact k.c0, by rw [World.cell?_setCell_other _ _ _ _ (ne _)]; exact k.c1, by rw [World.cell?_setCell_other _ _ _ _ (ne _)]; exact k.c2, by rw [World.cell?_setCell_other _ _ _ _ (ne _)]; exact k.c3, by rw [World.cell?_setCell_other _ _ _ _ (ne _)]; exact k.c4, fun o => by rw [World.frozen?_setCell]; exact k.fr o, by simpa using k.lt⟩
theorem S5.set0 (k : S5 w b v0 v1 v2 v3 v4) (x : Value) : S5 (w.setCell ⟨b, 0, none⟩ x) b x v1 v2 v3 v4 :=
  ⟨World.cell?_setCell_same _ _ _ k.c0, by rw [World.cell?_setCell_other _ _ _ _ (by intro q; have := congrArg Addr.off q; simp at this)]; exact k.c1, by rw [World.cell?_setCell_other _ _ _ _ (by intro q; have := congrArg Addr.off q; simp at this)]; exact k.c2, by rw [World.cell?_setCell_other _ _ _ _ (by intro q; have := congrArg Addr.off q; simp at this)]; exact k.c3, by rw [World.cell?_setCell_other _ _ _ _ (by intro q; have := congrArg Addr.off q; simp at this)]; exact k.c4, fun o => by rw [World.frozen?_setCell]; exact k.fr o, by simpa using k.lt⟩
theorem S5.set1 (k : S5 w b v0 v1 v2 v3 v4) (x : Value) : S5 (w.setCell ⟨b, 1, none⟩ x) b v0 x v2 v3 v4 :=
  ⟨by rw [World.cell?_setCell_other _ _ _ _ (by intro q; have := congrArg Addr.off q; simp at this)]; exact k.c0, World.cell?_setCell_same _ _ _ k.c1, by rw [World.cell?_setCell_other _ _ _ _ (by intro q; have := congrArg Addr.off q; simp at this)]; exact k.c2, by rw [World.cell?_setCell_other _ _ _ _ (by intro q; have := congrArg Addr.off q; simp at this)]; exact k.c3, by rw [World.cell?_setCell_other _ _ _ _ (by intro q; have := congrArg Addr.off q; simp at this)]; exact k.c4, fun o => by rw [World.frozen?_setCell]; exact k.fr o, by simpa using k.lt⟩
theorem S5.set2 (k : S5 w b v0 v1 v2 v3 v4) (x : Value) : S5 (w.setCell ⟨b, 2, none⟩ x) b v0 v1 x v3 v4 :=
  ⟨by rw [World.cell?_setCell_other _ _ _ _ (by intro q; have := congrArg Addr.off q; simp at this)]; exact k.c0, by rw [World.cell?_setCell_other _ _ _ _ (by intro q; have := congrArg Addr.off q; simp at this)]; exact k.c1, World.cell?_setCell_same _ _ _ k.c2, by rw [World.cell?_setCell_other _ _ _ _ (by intro q; have := congrArg Addr.off q; simp at this)]; exact k.c3, by rw [World.cell?_setCell_other _ _ _ _ (by intro q; have := congrArg Addr.off q; simp at this)]; exact k.c4, fun o => by rw [World.frozen?_setCell]; exact k.fr o, by simpa using k.lt⟩
theorem S5.set3 (k : S5 w b v0 v1 v2 v3 v4) (x : Value) : S5 (w.setCell ⟨b, 3, none⟩ x) b v0 v1 v2 x v4 :=
  ⟨by rw [World.cell?_setCell_other _ _ _ _ (by intro q; have := congrArg Addr.off q; simp at this)]; exact k.c0, by rw [World.cell?_setCell_other _ _ _ _ (by intro q; have := congrArg Addr.off q; simp at this)]; exact k.c1, by rw [World.cell?_setCell_other _ _ _ _ (by intro q; have := congrArg Addr.off q; simp at this)]; exact k.c2, World.cell?_setCell_same _ _ _ k.c3, by rw [World.cell?_setCell_other _ _ _ _ (by intro q; have := congrArg Addr.off q; simp at this)]; exact k.c4, fun o => by rw [World.frozen?_setCell]; exact k.fr o, by simpa using k.lt⟩
theorem S5.set4 (k : S5 w b v0 v1 v2 v3 v4) (x : Value) : S5 (w.setCell ⟨b, 4, none⟩ x) b v0 v1 v2 v3 x :=
  ⟨by rw [World.cell?_setCell_other _ _ _ _ (by intro q; have := congrArg Addr.off q; simp at this)]; exact k.c0, by rw [World.cell?_setCell_other _ _ _ _ (by intro q; have := congrArg Addr.off q; simp at this)]; exact k.c1, by rw [World.cell?_setCell_other _ _ _ _ (by intro q; have := congrArg Addr.off q; simp at this)]; exact k.c2, by rw [World.cell?_setCell_other _ _ _ _ (by intro q; have := congrArg Addr.off q; simp at this)]; exact k.c3, World.cell?_setCell_same _ _ _ k.c4, fun o => by rw [World.frozen?_setCell]; exact k.fr o, by simpa using k.lt⟩
end
end Go.Proofs.YtacninhhkbglaaaGreatDoor
/-
  A world in which one block alone has changed.
-/
namespace Go.Proofs.YtacninhhkbglaaaGreatDoor
open Go.ChangeShapes Go.WideShapes Go.ChangeAt Go.RowKit Go.Sort
structure OneB (g : Nat) (w w' : World) : Prop where
  os : w'.os = w.os
  tape : w'.tape = w.tape
  output : w'.output = w.output
  size : w'.heap.size = w.heap.size
  block : ∀ k, k ≠ g → w'.heap[k]? = w.heap[k]?
theorem OneB.refl (g : Nat) (w : World) : OneB g w w := ⟨rfl, rfl, rfl, rfl, fun _ _ => rfl⟩
theorem OneB.trans {g : Nat} {w w1 w2 : World} (h : OneB g w w1) (k : OneB g w1 w2) : OneB g w w2 := ⟨k.os.trans h.os, k.tape.trans h.tape, k.output.trans h.output, k.size.trans h.size, fun i hi => (k.block i hi).trans (h.block i hi)⟩
theorem OneB.set (g : Nat) (w : World) (o : Nat) (u : Value) : OneB g w (w.setCell ⟨g, o, none⟩ u) := ⟨rfl, rfl, rfl, by simp [World.setCell], fun k hk => Below.heap_setCell _ _ _ _ hk⟩
theorem OneB.below {g B : Nat} {w w' : World} (h : OneB g w w') (hB : B ≤ g) : Below B w w' := ⟨h.os, h.tape, h.output, Nat.le_of_eq h.size.symm, fun k hk => h.block k (by omega)⟩
theorem OneB.cell {g : Nat} {w w' : World} (h : OneB g w w') {b : Nat} (o : Nat) (hb : b ≠ g) : w'.cell? ⟨b, o, none⟩ = w.cell? ⟨b, o, none⟩ := by
  exact World.cell?_of_block (w := w) (h.block b hb)
theorem OneB.frozen {g : Nat} {w w' : World} (h : OneB g w w') {b : Nat} (o : Nat) (hb : b ≠ g) : w'.frozen? ⟨b, o, none⟩ = w.frozen? ⟨b, o, none⟩ := by
  exact World.frozen?_of_block (w := w) (h.block b hb)
theorem S4.one {g : Nat} {w w' : World} {b : Nat} {v0 v1 v2 v3 : Value} (k : S4 w b v0 v1 v2 v3) (h : OneB g w w') (hb : b ≠ g) : S4 w' b v0 v1 v2 v3 :=
  ⟨by rw [h.cell _ hb]; exact k.c0, by rw [h.cell _ hb]; exact k.c1, by rw [h.cell _ hb]; exact k.c2, by rw [h.cell _ hb]; exact k.c3, fun o => by rw [h.frozen _ hb]; exact k.fr o, by rw [h.size]; exact k.lt⟩
theorem S5.one {g : Nat} {w w' : World} {b : Nat} {v0 v1 v2 v3 v4 : Value} (k : S5 w b v0 v1 v2 v3 v4) (h : OneB g w w') (hb : b ≠ g) : S5 w' b v0 v1 v2 v3 v4 :=
  ⟨by rw [h.cell _ hb]; exact k.c0, by rw [h.cell _ hb]; exact k.c1, by rw [h.cell _ hb]; exact k.c2, by rw [h.cell _ hb]; exact k.c3, by rw [h.cell _ hb]; exact k.c4, fun o => by rw [h.frozen _ hb]; exact k.fr o, by rw [h.size]; exact k.lt⟩
end Go.Proofs.YtacninhhkbglaaaGreatDoor
/-
  A list in a row of one's own: what is appended; new lists.
-/
namespace Go.Proofs.YtacninhhkbglaaaGreatDoor
open Go.ChangeShapes Go.WideShapes Go.ChangeAt Go.RowKit Go.Sort
def cellWr (r : Wr) : List Value := [.int .i64 r.rq, .bool r.hd, .int .i64 r.du, .bool r.lt]
def wWr (l : List Wr) : List Value := l.flatMap cellWr
theorem wWr_len (l : List Wr) : (wWr l).length = l.length * 4 := by
  induction l with
  | nil => rfl
  | cons r l ih => simp only [wWr, List.flatMap_cons, List.length_append, List.length_cons] at ih ⊢; rw [ih]; simp [cellWr]; omega
theorem wWr_at (l : List Wr) : ∀ (i : Nat) r, l[i]? = some r → (wWr l)[i * 4]? = some (.int .i64 r.rq) ∧ (wWr l)[i * 4 + 1]? = some (.bool r.hd) ∧ (wWr l)[i * 4 + 2]? = some (.int .i64 r.du) ∧ (wWr l)[i * 4 + 3]? = some (.bool r.lt) := by
  induction l with
  | nil => intro i r hr; simp at hr
  | cons x l ih =>
    intro i r hr
    have e : wWr (x :: l) = .int .i64 x.rq :: .bool x.hd :: .int .i64 x.du :: .bool x.lt :: wWr l := by simp [wWr, cellWr]
    rw [e]
    cases i with
    | zero => simp at hr; subst hr; simp
    | succ i =>
      have := ih i r (by simpa using hr)
      rw [show (i + 1) * 4 = i * 4 + 4 from by omega]
      simpa using this
theorem wWr_one (l : List Wr) : ∀ u ∈ wWr l, u.oneCell' = true := by
  intro u hu
  simp only [wWr, List.mem_flatMap] at hu
  obtain ⟨r, _, hr⟩ := hu
  simp only [cellWr, List.mem_cons, List.not_mem_nil, or_false] at hr
  rcases hr with rfl | rfl | rfl | rfl <;> rfl
theorem addWr (b off j : Nat) : (⟨b, off, none⟩ : Addr).add j = ⟨b, off + j, none⟩ := by unfold Addr.add; split <;> simp_all
theorem wWr_in {w : World} {a : Option Addr} {l : List Wr} (h : WrIn w a l) : l.length = 0 ∨ ∃ ad, a = some ad ∧ ∀ j u, (wWr l)[j]? = some u → w.cell? (ad.add j) = some u := by
  rcases h with rfl | ⟨b, off, rfl, h⟩
  · exact .inl rfl
  · refine .inr ⟨_, rfl, fun j u hj => ?_⟩
    rw [addWr]
    have hlt : j < (wWr l).length := (List.getElem?_eq_some_iff.1 hj).1
    rw [wWr_len] at hlt
    obtain ⟨r, hr⟩ : ∃ r, l[j / 4]? = some r := ⟨l[j / 4]'(by omega), List.getElem?_eq_getElem _⟩
    obtain ⟨e0, e1, e2, e3⟩ := wWr_at l (j / 4) r hr
    obtain ⟨c0, c1, c2, c3⟩ := h (j / 4) r hr
    obtain hm | hm | hm | hm : j % 4 = 0 ∨ j % 4 = 1 ∨ j % 4 = 2 ∨ j % 4 = 3 := by omega
    · have ej : j / 4 * 4 = j := by omega
      rw [ej] at e0 c0
      rw [e0] at hj
      rw [← hj]; exact c0
    · have ej : j / 4 * 4 + 1 = j := by omega
      rw [ej] at e1
      rw [Nat.add_assoc, ej] at c1
      rw [e1] at hj
      rw [← hj]; exact c1
    · have ej : j / 4 * 4 + 2 = j := by omega
      rw [ej] at e2
      rw [Nat.add_assoc, ej] at c2
      rw [e2] at hj
      rw [← hj]; exact c2
    · have ej : j / 4 * 4 + 3 = j := by omega
      rw [ej] at e3
      rw [Nat.add_assoc, ej] at c3
      rw [e3] at hj
      rw [← hj]; exact c3
/-- v, nil or not, holds l in a row of the call's own, from block base on. -/
def OwnWr (w : World) (base : Nat) (v : Value) (l : List Wr) : Prop := w.ownsRow base 91 4 v l.length (wWr l)
theorem OwnWr.none0 (w : World) (base : Nat) : OwnWr w base (.slice none 0 0) [] := World.ownsRow_nil _ _ _ _
theorem OwnWr.made0 (w : World) (base : Nat) (hb : base ≤ w.heap.size) : OwnWr (w.alloc (.cells #[] 91)) base (.slice (some ⟨w.heap.size, 0, none⟩) 0 0) [] := World.ownsRow_made w #[] 0 hb (by unfold maxLen; omega) rfl
theorem OwnWr.below {w w' : World} {base : Nat} {v : Value} {l : List Wr} (h : OwnWr w base v l) (hb : Below w.heap.size w w') : OwnWr w' base v l := row_below h hb
theorem OwnWr.lower {w : World} {b0 base : Nat} {v : Value} {l : List Wr} (h : OwnWr w base v l) (hb : b0 ≤ base) : OwnWr w b0 v l := row_lower h hb
theorem OwnWr.in {w : World} {base : Nat} {v : Value} {l : List Wr} (h : OwnWr w base v l) : ∃ a c, v = .slice a l.length c ∧ l.length ≤ c ∧ WrIn w a l := by
  have h0 := h
  obtain ⟨_, h1 | ⟨g, c, cur, rfl, _, _, hc, _⟩⟩ := h
  · have e : l = [] := List.eq_nil_of_length_eq_zero h1.2
    subst e
    exact ⟨none, 0, h1.1, Nat.le_refl _, .inl rfl⟩
  · refine ⟨_, c, rfl, hc, .inr ⟨g, 0, rfl, fun i r hr => ?_⟩⟩
    have hi := (List.getElem?_eq_some_iff.1 hr).1
    obtain ⟨a0, a1, a2, a3⟩ := wWr_at l i r hr
    have c0 := World.ownsRow.cellAt h0 (i * 4) (by omega)
    have c1 := World.ownsRow.cellAt h0 (i * 4 + 1) (by omega)
    have c2 := World.ownsRow.cellAt h0 (i * 4 + 2) (by omega)
    have c3 := World.ownsRow.cellAt h0 (i * 4 + 3) (by omega)
    exact ⟨by rw [Nat.zero_add, c0, a0], by rw [Nat.zero_add, c1, a1], by rw [Nat.zero_add, c2, a2], by rw [Nat.zero_add, c3, a3]⟩
/-- v holds l in a block of its own, from base on. -/
def WrNew (w : World) (base : Nat) (v : Value) (l : List Wr) : Prop := (l = [] ∧ ∃ a c, v = .slice a 0 c) ∨ ∃ g off cap, v = .slice (some ⟨g, off, none⟩) l.length cap ∧ base ≤ g ∧ g < w.heap.size ∧ WrAt w g off l ∧ ∀ o, w.frozen? ⟨g, o, none⟩ = false
theorem WrNew.in {w : World} {base : Nat} {v : Value} {l : List Wr} (h : WrNew w base v l) : ∃ a c, v = .slice a l.length c ∧ WrIn w a l := by
  rcases h with ⟨rfl, a, c, rfl⟩ | ⟨g, off, cap, rfl, _, _, h, _⟩
  · exact ⟨a, c, rfl, .inl rfl⟩
  · exact ⟨_, _, rfl, .inr ⟨g, off, rfl, h⟩⟩
theorem WrNew.keep {w w' : World} {base : Nat} {v : Value} {l : List Wr} (h : WrNew w base v l) (hb : Below w.heap.size w w') : WrNew w' base v l := by
  rcases h with h | ⟨g, off, cap, e, h1, h2, h3, h4⟩
  · exact .inl h
  · exact .inr ⟨g, off, cap, e, h1, Nat.lt_of_lt_of_le h2 hb.size, h3.keep hb, fun o => by rw [hb.frozen (p := ⟨g, o, none⟩) h2]; exact h4 o⟩
theorem WrNew.lower {w : World} {b0 base : Nat} {v : Value} {l : List Wr} (h : WrNew w base v l) (hb : b0 ≤ base) : WrNew w b0 v l := by
  rcases h with h | ⟨g, off, cap, e, h1, h2⟩
  · exact .inl h
  · exact .inr ⟨g, off, cap, e, by omega, h2⟩
theorem WrNew.nil (w : World) (base : Nat) (a : Option Addr) (c : Nat) : WrNew w base (.slice a 0 c) [] := .inl ⟨rfl, a, c, rfl⟩
theorem WrAt.one {g G off : Nat} {w w' : World} {l : List Wr} (h : WrAt w G off l) (k : OneB g w w') (hne : G ≠ g) : WrAt w' G off l := by
  intro i r hr
  obtain ⟨p0, p1, p2, p3⟩ := h i r hr
  exact ⟨by rw [k.cell _ hne]; exact p0, by rw [k.cell _ hne]; exact p1, by rw [k.cell _ hne]; exact p2, by rw [k.cell _ hne]; exact p3⟩
theorem WrNew.one {g : Nat} {w w' : World} {base : Nat} {v : Value} {l : List Wr} (h : WrNew w base v l) (k : OneB g w w') (hne : ∀ G, v.ownBlock = some G → G ≠ g) : WrNew w' base v l := by
  rcases h with h | ⟨G, off, cap, rfl, h1, h2, h3, h4⟩
  · exact .inl h
  · have hn := hne G rfl
    exact .inr ⟨G, off, cap, rfl, h1, by rw [k.size]; exact h2, h3.one k hn, fun o => by rw [k.frozen _ hn]; exact h4 o⟩
theorem OwnWr.new {w : World} {base : Nat} {v : Value} {l : List Wr} (h : OwnWr w base v l) : WrNew w base v l := by
  obtain ⟨a, c, e, _, hi⟩ := h.in
  obtain ⟨_, h1 | ⟨g, c', cur, rfl, hg, hh, _⟩⟩ := h
  · have e0 : l = [] := List.eq_nil_of_length_eq_zero h1.2
    exact .inl ⟨e0, none, 0, h1.1⟩
  · simp only [Value.slice.injEq, true_and] at e
    obtain ⟨rfl, rfl⟩ := e
    rcases hi with hi | ⟨b, off, e2, hat⟩
    · exact .inl ⟨hi, some ⟨g, 0, none⟩, c', by rw [hi]; rfl⟩
    · simp only [Option.some.injEq, Addr.mk.injEq, and_true] at e2
      obtain ⟨rfl, rfl⟩ := e2
      exact .inr ⟨g, 0, c', rfl, hg, (Array.getElem?_eq_some_iff.1 hh).1, hat, fun o => by simp [World.frozen?, hh]⟩
theorem WrNew.spot {w : World} {base : Nat} {a : Option Addr} {n c : Nat} {l : List Wr} (h : WrNew w base (.slice a n c) l) : ∃ g off, base ≤ g ∧ (l = [] ∨ (a = some ⟨g, off, none⟩ ∧ WrAt w g off l ∧ ∀ o, o < off + l.length * 4 → w.frozen? ⟨g, o, none⟩ = false)) ∧ (l = [] ∨ g < w.heap.size) := by
  rcases h with ⟨e, _⟩ | ⟨g, off, cap, e, h1, h2, h3, h4⟩
  · exact ⟨base, 0, Nat.le_refl _, .inl e, .inl e⟩
  · simp only [Value.slice.injEq] at e
    obtain ⟨rfl, rfl, rfl⟩ := e
    exact ⟨g, off, h1, .inr ⟨rfl, h3, fun o _ => h4 o⟩, .inr h2⟩
theorem wpList_append1Wr {ops : Array Oper} {rest : List Oper} {o : Oper} {a : Act} {Q : Exit → Act → World → Prop} (w : World) (hgd : o.guard = none) (s x : Operand)
    (ho : o.op = .call { callee := .builtin .append, args := #[s, x], argTypes := #[84, 84] }) (base : Nat) (v : Value) (l : List Wr) (r : Wr)
    (hs : a.eval s = v) (hx : a.eval x = .slice (some ⟨w.heap.size, 0, none⟩) 1 1) (hown : OwnWr w base v l) (hl : l.length ≤ 2000000) (hbase : base ≤ w.heap.size)
    (h : ∀ v' w', OwnWr w' base v' (l ++ [r]) → Below base w w' → w.grownBy w' v.ownBlock → wpList Tryz.prog ops Q rest (a.put o.dst v') w') :
    wpList Tryz.prog ops Q (o :: rest) a (w.alloc (.cells #[.int .i64 r.rq, .bool r.hd, .int .i64 r.du, .bool r.lt] 91)) := by
  obtain ⟨i0, hi, hz0, hz1, hz2⟩ := info_parts infoWr
  refine wpList_append_own _ hgd s x 84 ho base 91 i0 (.agg #[.int .i64 0, .bool false, .int .i64 0, .bool false]) 4 32 Tryz.underlying84 hi hz0 hz1 hz2 rfl (by decide) v l.length (wWr l) hs (World.ownsRow.alloc hown _) ⟨w.heap.size, 0, none⟩ 1 1 (cellWr r) hx rfl ?_ ?_ ?_ ?_ ?_ ?_
  · intro j u hj
    match j, hj with
    | 0, hj => simp [cellWr] at hj; subst hj; simp [Addr.add]
    | 1, hj => simp [cellWr] at hj; subst hj; simp [Addr.add]
    | 2, hj => simp [cellWr] at hj; subst hj; simp [Addr.add]
    | 3, hj => simp [cellWr] at hj; subst hj; simp [Addr.add]
  · intro u hu; simp [cellWr] at hu; rcases hu with rfl | rfl | rfl | rfl <;> rfl
  · unfold maxLen; omega
  · omega
  · simp; omega
  · intro v' w' h1 h2 h3
    have e : wWr (l ++ [r]) = wWr l ++ cellWr r := by simp [wWr]
    refine h v' w' (by unfold OwnWr; rw [e, List.length_append]; exact h1) ?_ ?_
    · exact ((Below.refl base w).alloc hbase _).grown h2 (by simp; omega) (fun q hq => row_ge hown q hq)
    · have hb := (Below.refl w.heap.size w).alloc (Nat.le_refl _) (.cells #[.int .i64 r.rq, .bool r.hd, .int .i64 r.du, .bool r.lt] 91)
      exact ⟨h2.os.trans hb.os, h2.tape.trans hb.tape, h2.output.trans hb.output, Nat.le_trans hb.size h2.size, fun q hq hn => (h2.block q (Nat.lt_of_lt_of_le hq hb.size) hn).trans (hb.block q hq)⟩
theorem wpList_appendInWr {ops : Array Oper} {rest : List Oper} {o : Oper} {a : Act} {Q : Exit → Act → World → Prop} (w : World) (hgd : o.guard = none) (s x : Operand)
    (ho : o.op = .call { callee := .builtin .append, args := #[s, x], argTypes := #[84, 84] }) (base : Nat) (v : Value) (l m : List Wr) (pa : Option Addr) (cap : Nat)
    (hs : a.eval s = v) (hx : a.eval x = .slice pa m.length cap) (hown : OwnWr w base v l) (hin : WrIn w pa m) (hl : l.length + m.length ≤ 2000000) (hbase : base ≤ w.heap.size)
    (h : ∀ v' w', OwnWr w' base v' (l ++ m) → Below base w w' → wpList Tryz.prog ops Q rest (a.put o.dst v') w') :
    wpList Tryz.prog ops Q (o :: rest) a w := by
  obtain ⟨i0, hi, hz0, hz1, hz2⟩ := info_parts infoWr
  refine wpList_plain hgd fun K hK => wp_append_in w s x 84 91 ho i0 (.agg #[.int .i64 0, .bool false, .int .i64 0, .bool false]) 4 32 Tryz.underlying84 hi hz0 hz1 hz2 rfl (by decide) base v l.length (wWr l) hs hown pa cap m.length (wWr m) hx (wWr_len m) (wWr_in hin) (wWr_one m) (by unfold maxLen; omega) (by omega) hbase fun v' w' h1 h2 _ => hK _ _ (h v' w' ?_ h2)
  unfold OwnWr
  rw [List.length_append, show wWr (l ++ m) = wWr l ++ wWr m by simp [wWr]]
  exact h1
end Go.Proofs.YtacninhhkbglaaaGreatDoor
/-
  Facts that hang on stretches of blocks, one behind the other.
-/
namespace Go.Proofs.YtacninhhkbglaaaGreatDoor
open Go.ChangeShapes Go.WideShapes Go.ChangeAt Go.RowKit
/-- What hangs on a stretch within. -/
def Wide (A : Nat → Nat → World → Prop) (lo hi : Nat) (X : World) : Prop := ∃ l h, lo ≤ l ∧ l ≤ h ∧ h ≤ hi ∧ At l h A X
/-- Both, one behind the other. -/
def Bef (A B : Nat → Nat → World → Prop) (lo hi : Nat) (X : World) : Prop := ∃ l h m n, lo ≤ l ∧ l ≤ h ∧ h ≤ m ∧ m ≤ n ∧ n ≤ hi ∧ At l h A X ∧ At m n B X
theorem At.mv {l h lo hi : Nat} {A : Nat → Nat → World → Prop} {X X' : World} (k : At l h A X) (h0 : lo ≤ l) (h1 : h ≤ hi) (s : X.heap.size ≤ X'.heap.size) (hc : ∀ b o, lo ≤ b → b < hi → X'.cell? ⟨b, o, none⟩ = X.cell? ⟨b, o, none⟩ ∧ X'.frozen? ⟨b, o, none⟩ = X.frozen? ⟨b, o, none⟩) : At l h A X' :=
  ⟨Nat.le_trans k.le s, k.dep, k.dep X X' k.le s (fun b o h2 h3 => hc b o (Nat.le_trans h0 h2) (Nat.lt_of_lt_of_le h3 h1)) k.val⟩
theorem Wide.dep (A : Nat → Nat → World → Prop) (lo hi : Nat) : Dep lo hi (Wide A lo hi) := fun X X' _ h2 hc k => by
  obtain ⟨l, h, a, b, c, d⟩ := k
  exact ⟨l, h, a, b, c, d.mv a c h2 hc⟩
theorem Bef.dep (A B : Nat → Nat → World → Prop) (lo hi : Nat) : Dep lo hi (Bef A B lo hi) := fun X X' _ h2 hc k => by
  obtain ⟨l, h, m, n, a, b, c, d, e, f, g⟩ := k
  exact ⟨l, h, m, n, a, b, c, d, e, f.mv a (by omega) h2 hc, g.mv (by omega) e h2 hc⟩
theorem Wide.at {A : Nat → Nat → World → Prop} {l h : Nat} {X : World} (k : At l h A X) (hl : l ≤ h) : At l h (Wide A) X := ⟨k.le, Wide.dep _ _ _, l, h, Nat.le_refl _, hl, Nat.le_refl _, k⟩
theorem Bef.at {A B : Nat → Nat → World → Prop} {l h m n : Nat} {X : World} (k : At l h A X) (j : At m n B X) (hl : l ≤ h ∧ h ≤ m ∧ m ≤ n) : At l n (Bef A B) X := ⟨j.le, Bef.dep _ _ _ _, l, h, m, n, Nat.le_refl _, hl.1, hl.2.1, hl.2.2, Nat.le_refl _, k, j⟩
theorem At.wideW {A : Nat → Nat → World → Prop} {l h lo hi : Nat} {X : World} (k : At l h (Wide A) X) (h0 : lo ≤ l) (h1 : h ≤ hi) (h2 : hi ≤ X.heap.size) : At lo hi (Wide A) X := by
  obtain ⟨a, b, c, d, e, f⟩ := k.val
  exact ⟨h2, Wide.dep _ _ _, a, b, by omega, d, by omega, f⟩
theorem At.wideB {A B : Nat → Nat → World → Prop} {l h lo hi : Nat} {X : World} (k : At l h (Bef A B) X) (h0 : lo ≤ l) (h1 : h ≤ hi) (h2 : hi ≤ X.heap.size) : At lo hi (Bef A B) X := by
  obtain ⟨a, b, c, d, e, f, g, i, j, m, n⟩ := k.val
  exact ⟨h2, Bef.dep _ _ _ _, a, b, c, d, by omega, f, g, i, by omega, m, n⟩
end Go.Proofs.YtacninhhkbglaaaGreatDoor
/-
  Outcomes in memory.
-/
namespace Go.Proofs.YtacninhhkbglaaaGreatDoor
open Go.ChangeShapes Go.WideShapes Go.ChangeAt Go.RowKit
structure Mk where
  tm : Int
  gd : Bool
def MkAt (w : World) (b off : Nat) (l : List Mk) : Prop :=
  ∀ (i : Nat) r, l[i]? = some r → w.cell? ⟨b, off + i * 2, none⟩ = some (.int .i64 r.tm) ∧ w.cell? ⟨b, off + i * 2 + 1, none⟩ = some (.bool r.gd)
theorem MkAt.keep {w w' : World} {b off : Nat} {l : List Mk} (h : MkAt w b off l) (hb : Below w.heap.size w w') : MkAt w' b off l := by
  intro i r hr
  obtain ⟨p0, p1⟩ := h i r hr
  exact ⟨by rw [hb.cell (block_lt_of_cell p0)]; exact p0, by rw [hb.cell (block_lt_of_cell p1)]; exact p1⟩
/-- The slice at a holds l. -/
def MkIn (w : World) (a : Option Addr) (l : List Mk) : Prop := l = [] ∨ ∃ b off, a = some ⟨b, off, none⟩ ∧ MkAt w b off l
theorem MkIn.keep {w w' : World} {a : Option Addr} {l : List Mk} (h : MkIn w a l) (hb : Below w.heap.size w w') : MkIn w' a l := by
  rcases h with h | ⟨b, off, e, hat⟩
  · exact .inl h
  · exact .inr ⟨b, off, e, hat.keep hb⟩
theorem dropMk (l : List Mk) (k : Nat) (r : Mk) (h : l[k]? = some r) : l.drop k = r :: l.drop (k + 1) := by
  obtain ⟨hk, rfl⟩ := List.getElem?_eq_some_iff.1 h
  exact List.drop_eq_getElem_cons hk
set_option maxHeartbeats 400000 in
theorem toMk_any (r : Mk) (w : World) :
    Calls Tryz.prog 257 #[.agg #[.int .i64 r.tm, .bool r.gd]] w fun e w' => e = .returned (.agg #[.int .i64 r.tm, .bool r.gd]) ∧ Below w.heap.size w w' := by
  obtain ⟨tm, gd⟩ := r
  simp only
  go_enter Tryz.func257, Tryz.ntmps257
  go_wp2
  exact bodyPost_ret (v := .agg #[.int .i64 tm, .bool gd]) (by simp [results, Tryz.results257, go_sem]) rfl ⟨rfl, (((Below.refl _ _).alloc (Nat.le_refl _) _).alloc (by simp) _).alloc (by simp; omega) _⟩
set_option maxHeartbeats 400000 in
theorem eqMk_same (r : Mk) (w : World) :
    Calls Tryz.prog 248 #[.agg #[.int .i64 r.tm, .bool r.gd], .agg #[.int .i64 r.tm, .bool r.gd]] w fun e w' => e = .returned (.bool true) ∧ Below w.heap.size w w' := by
  obtain ⟨tm, gd⟩ := r
  simp only
  go_enter Tryz.func248, Tryz.ntmps248
  go_wp2
  go_ret
  exact ⟨rfl, ((Below.refl _ _).alloc (Nat.le_refl _) _).alloc (by simp) _⟩
def szMk (left : Int) (n : Nat) : Int := if left - (n : Int) < 0 then -1 else left - (n : Int)
set_option maxHeartbeats 400000 in
theorem szMk_any (w : World) (a : Option Addr) (cap n : Nat) (hl : n ≤ maxLen) (left : Int) (h0 : 0 ≤ left) (h1 : left ≤ 1048576) :
    Calls Tryz.prog 223 #[.slice a n cap, .int .i64 left] w fun e w' => e = .returned (.int .i64 (szMk left n)) ∧ w' = w := by
  unfold maxLen at hl
  by_cases c0 : left - (n : Int) < 0
  · have HE : Hid (szMk left n = -1) := by show _ = _; unfold szMk; rw [if_pos c0]
    go_enter Tryz.func223, Tryz.ntmps223
    go_wp2
    go_ret
    exact ⟨ret_int HE.out.symm, rfl⟩
  · have HE : Hid (szMk left n = left - (n : Int)) := by show _ = _; unfold szMk; rw [if_neg c0]
    have c0' : 0 ≤ left - (n : Int) := by omega
    go_enter Tryz.func223, Tryz.ntmps223
    go_wp2
    go_ret
    exact ⟨ret_int HE.out.symm, rfl⟩
theorem szMk_room {left : Int} {n : Nat} (h1 : left ≤ 1048576) (h : ¬ szMk left n < 0) : (n : Int) ≤ 1048576 ∧ szMk left n ≤ left ∧ 0 ≤ szMk left n := by
  unfold szMk at h ⊢
  by_cases c0 : left - (n : Int) < 0
  · rw [if_pos c0] at h; omega
  · rw [if_neg c0] at h ⊢; omega
end Go.Proofs.YtacninhhkbglaaaGreatDoor
