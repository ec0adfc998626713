/-
  Texts of one claim, one behind the other.
-/
import Derived.Below
import Derived.BigQuiet
import Derived.Deep.AppendLies
import Derived.Deep.CutBlock
import Derived.Deep.CutRange
import Derived.Deep.MidRow
import Derived.Deep.QuietTactic
import Derived.Deep.RegionHeld3
import Derived.Deep.RegionWith
import Derived.Deep.Slices
import Derived.Deep.Strs
import Derived.Deep.WholeRow
import Derived.Laws.Cells
import Derived.Laws.IdiomCopy
import Derived.Laws.IdiomStrings
import Derived.Laws.OwnMore
import Derived.Lib.QuietBelow
import Derived.OpenShut
import Derived.ProofKit
import Derived.Test.YtlbagfaiiileoaaDoorProg
import Derived.WalkKit
import Derived.WalkLawsBesides
import Derived.WalkSpells
/-
  Small lemmas that the walks share.
-/
namespace Go.Proofs.YtlbagfaiiileoaaDoor
open Go.ChangeShapes Go.WideShapes Go.ChangeAt Go.RowKit
theorem bcell {W w1 : World} (hb : Below W.heap.size W w1) : (∀ b o, b < W.heap.size → w1.cell? ⟨b, o, none⟩ = W.cell? ⟨b, o, none⟩) ∧ (∀ b o, b < W.heap.size → w1.frozen? ⟨b, o, none⟩ = W.frozen? ⟨b, o, none⟩) :=
  ⟨fun b o h => hb.cell (p := ⟨b, o, none⟩) h, fun b o h => hb.frozen (p := ⟨b, o, none⟩) h⟩
theorem two_set {w : World} {B : Nat} {u0 u1 v0 v1 : Value} (p0 : w.cell? ⟨B, 0, none⟩ = some u0) (p1 : w.cell? ⟨B, 1, none⟩ = some u1) :
    ((w.setCell ⟨B, 0, none⟩ v0).setCell ⟨B, 1, none⟩ v1).cell? ⟨B, 0, none⟩ = some v0 ∧ ((w.setCell ⟨B, 0, none⟩ v0).setCell ⟨B, 1, none⟩ v1).cell? ⟨B, 1, none⟩ = some v1 := by
  constructor
  · rw [World.cell?_setCell_other _ _ _ _ (by intro h; have := congrArg Addr.off h; simp at this), World.cell?_setCell_same _ _ _ p0]
  · refine World.cell?_setCell_same _ _ _ (u := u1) ?_
    rw [World.cell?_setCell_other _ _ _ _ (by intro h; have := congrArg Addr.off h; simp at this), p1]
theorem ret_int {k : IntKind} {a b : Int} (h : a = b) : Ending.returned (.int k a) = .returned (.int k b) := by rw [h]
theorem ret_bool {a b : Bool} (h : a = b) : Ending.returned (.bool a) = .returned (.bool b) := by rw [h]
theorem ret_str {a b : ByteArray} (h : a = b) : Ending.returned (.string a) = .returned (.string b) := by rw [h]
theorem take_snoc (s : ByteArray) (k : Nat) (h : k < s.size) : s.data.toList.take (k + 1) = s.data.toList.take k ++ [s[k]] := by
  rw [List.take_succ_eq_append_getElem (by simpa using h)]; rfl
end Go.Proofs.YtlbagfaiiileoaaDoor
/-
  What a law keeps in memory while it goes on: facts that hang on the blocks of a stretch alone.
-/
namespace Go.Proofs.YtlbagfaiiileoaaDoor
open Go.ChangeShapes Go.WideShapes Go.ChangeAt Go.RowKit
theorem hidL {p : Prop} (h : p) : Hid p := h
/-- What C says hangs on the blocks from l up to h alone. -/
def Dep (l h : Nat) (C : World → Prop) : Prop :=
  ∀ X X' : World, h ≤ X.heap.size → X.heap.size ≤ X'.heap.size → (∀ b o, l ≤ b → b < h → X'.cell? ⟨b, o, none⟩ = X.cell? ⟨b, o, none⟩ ∧ X'.frozen? ⟨b, o, none⟩ = X.frozen? ⟨b, o, none⟩) → C X → C X'
structure At (l h : Nat) (C : Nat → Nat → World → Prop) (X : World) : Prop where
  le : h ≤ X.heap.size
  dep : Dep l h (C l h)
  val : C l h X
/-- Nothing is written but in the blocks from lo up to hi, and in new ones. -/
structure Wi (lo hi : Nat) (X X' : World) : Prop where
  size : X.heap.size ≤ X'.heap.size
  cell : ∀ b o, b < X.heap.size → (b < lo ∨ hi ≤ b) → X'.cell? ⟨b, o, none⟩ = X.cell? ⟨b, o, none⟩
  frozen : ∀ b o, b < X.heap.size → (b < lo ∨ hi ≤ b) → X'.frozen? ⟨b, o, none⟩ = X.frozen? ⟨b, o, none⟩
theorem At.wi {l h lo hi : Nat} {C : Nat → Nat → World → Prop} {X X' : World} (k : At l h C X) (g : Wi lo hi X X') (hd : h ≤ lo ∨ hi ≤ l) : At l h C X' :=
  ⟨Nat.le_trans k.le g.size, k.dep, k.dep X X' k.le g.size (fun b o h1 h2 => ⟨g.cell b o (Nat.lt_of_lt_of_le h2 k.le) (by omega), g.frozen b o (Nat.lt_of_lt_of_le h2 k.le) (by omega)⟩) k.val⟩
theorem Wi.of {lo hi : Nat} {X X' : World} (hb : Below X.heap.size X X') : Wi lo hi X X' :=
  ⟨hb.size, fun b o h _ => hb.cell (p := ⟨b, o, none⟩) h, fun b o h _ => hb.frozen (p := ⟨b, o, none⟩) h⟩
theorem At.keep {l h : Nat} {C : Nat → Nat → World → Prop} {X X' : World} (k : At l h C X) (hb : Below X.heap.size X X') : At l h C X' :=
  k.wi (lo := h) (hi := h) (Wi.of hb) (.inl (Nat.le_refl _))
theorem At.al {l h : Nat} {C : Nat → Nat → World → Prop} {X : World} (k : At l h C X) (o : Obj) : At l h C (X.alloc o) := k.keep ((Below.refl _ _).alloc (Nat.le_refl _) _)
theorem At.set {l h : Nat} {C : Nat → Nat → World → Prop} {X : World} (k : At l h C X) {b i : Nat} (u : Value) (hd : b < l ∨ h ≤ b) : At l h C (X.setCell ⟨b, i, none⟩ u) :=
  k.wi (lo := b) (hi := b + 1) ⟨by simp, fun b' o _ hne => World.cell?_setCell_other _ _ _ _ (fun e => by have := congrArg Addr.block e; simp only at this; omega), fun b' o _ _ => by rw [World.frozen?_setCell]⟩ (by omega)
/-- A box that lies there. -/
def Bx (b : Nat) (vs : List Value) (_ _ : Nat) (X : World) : Prop := (∀ i v, vs[i]? = some v → X.cell? ⟨b, i, none⟩ = some v) ∧ ∀ o, X.frozen? ⟨b, o, none⟩ = false
theorem Bx.dep (b : Nat) (vs : List Value) (l h : Nat) : Dep b (b + 1) (Bx b vs l h) := fun X X' _ _ h k =>
  ⟨fun i v hv => by rw [(h b i (Nat.le_refl _) (Nat.lt_succ_self _)).1]; exact k.1 i v hv, fun o => by rw [(h b o (Nat.le_refl _) (Nat.lt_succ_self _)).2]; exact k.2 o⟩
theorem Bx.new (X : World) (vs : List Value) (t : TypeId) : At X.heap.size (X.heap.size + 1) (Bx X.heap.size vs) (X.alloc (.cells vs.toArray t)) := by
  refine ⟨by simp, Bx.dep _ _ _ _, fun i v hv => ?_, fun o => ?_⟩
  · rw [World.cell?_alloc_mark]
    simpa using hv
  · have e := heap_alloc_new X (.cells vs.toArray t)
    unfold World.frozen?
    rw [e]
    simp
theorem Bx.newAt {X : World} {b : Nat} (hb : X.heap.size = b) (vs : List Value) (t : TypeId) : At b (b + 1) (Bx b vs) (X.alloc (.cells vs.toArray t)) := by
  subst hb
  exact Bx.new X vs t
theorem Bx.put {X : World} {b : Nat} {vs : List Value} (k : At b (b + 1) (Bx b vs) X) (i : Nat) (u : Value) (hi : i < vs.length) : At b (b + 1) (Bx b (vs.set i u)) (X.setCell ⟨b, i, none⟩ u) := by
  refine ⟨by simpa using k.le, Bx.dep _ _ _ _, fun j v hv => ?_, fun o => by rw [World.frozen?_setCell]; exact k.val.2 o⟩
  by_cases e : j = i
  · subst e
    rw [List.getElem?_set_self hi] at hv
    obtain rfl := Option.some.inj hv
    exact World.cell?_setCell_same _ _ _ (k.val.1 j (vs[j]) (List.getElem?_eq_getElem hi))
  · rw [List.getElem?_set_ne (fun q => e q.symm)] at hv
    rw [World.cell?_setCell_other _ _ _ _ (fun q => e (by have := congrArg Addr.off q; simpa using this.symm))]
    exact k.val.1 j v hv
theorem Wi.trans {lo hi : Nat} {X Y Z : World} (g : Wi lo hi X Y) (k : Wi lo hi Y Z) : Wi lo hi X Z :=
  ⟨Nat.le_trans g.size k.size, fun b o h1 h2 => by rw [k.cell b o (Nat.lt_of_lt_of_le h1 g.size) h2]; exact g.cell b o h1 h2, fun b o h1 h2 => by rw [k.frozen b o (Nat.lt_of_lt_of_le h1 g.size) h2]; exact g.frozen b o h1 h2⟩
theorem Wi.wide {lo hi l h : Nat} {X Y : World} (g : Wi lo hi X Y) (h1 : l ≤ lo) (h2 : hi ≤ h) : Wi l h X Y :=
  ⟨g.size, fun b o hb hd => g.cell b o hb (by omega), fun b o hb hd => g.frozen b o hb (by omega)⟩
end Go.Proofs.YtlbagfaiiileoaaDoor
/-
  A box that is written cell by cell.
-/
namespace Go.Proofs.YtlbagfaiiileoaaDoor
open Go.ChangeShapes Go.WideShapes Go.ChangeAt Go.RowKit
def putAll (X : World) (b : Nat) : Nat → List Value → World
  | _, [] => X
  | i, v :: vs => putAll (X.setCell ⟨b, i, none⟩ v) b (i + 1) vs
theorem Bx.putFrom {b : Nat} : ∀ (vs : List Value) (X : World) (i : Nat) (zs : List Value), zs.length = i + vs.length → At b (b + 1) (Bx b zs) X → At b (b + 1) (Bx b (zs.take i ++ vs)) (putAll X b i vs)
  | [], X, i, zs, hl, k => by
    rw [List.append_nil, List.take_of_length_le (by simp at hl; omega)]
    exact k
  | v :: vs, X, i, zs, hl, k => by
    have hi : i < zs.length := by rw [hl, List.length_cons]; omega
    have r := Bx.putFrom vs (X.setCell ⟨b, i, none⟩ v) (i + 1) (zs.set i v) (by rw [List.length_set, hl, List.length_cons]; omega) (Bx.put k i v hi)
    have e : (zs.set i v).take (i + 1) ++ vs = zs.take i ++ v :: vs := by
      rw [List.take_succ_eq_append_getElem (by rw [List.length_set]; exact hi), List.getElem_set_self, List.take_set_of_le (Nat.le_refl _)]
      simp
    rw [e] at r
    exact r
theorem Bx.putAll {b : Nat} {X : World} {zs : List Value} (k : At b (b + 1) (Bx b zs) X) (vs : List Value) (hl : zs.length = vs.length) : At b (b + 1) (Bx b vs) (putAll X b 0 vs) := by
  have r := Bx.putFrom vs X 0 zs (by omega) k
  simpa using r
theorem At.putAll {l h b : Nat} {C : Nat → Nat → World → Prop} (hd : b < l ∨ h ≤ b) : ∀ (vs : List Value) (i : Nat) {X : World}, At l h C X → At l h C (putAll X b i vs)
  | [], _, _, k => k
  | v :: vs, i, _, k => At.putAll hd vs (i + 1) (k.set v hd)
theorem below_putAll {base b : Nat} {w : World} (hb : base ≤ b) : ∀ (vs : List Value) (i : Nat) {X : World}, Below base w X → Below base w (putAll X b i vs)
  | [], _, _, k => k
  | v :: vs, i, _, k => below_putAll hb vs (i + 1) (k.setCell hb v)
end Go.Proofs.YtlbagfaiiileoaaDoor
/-
  A whole struct that is loaded out of one box and stored into another one, at once.
-/
namespace Go.Proofs.YtlbagfaiiileoaaDoor
open Go.ChangeShapes Go.WideShapes Go.ChangeAt Go.RowKit
theorem putAll_eq (b : Nat) : ∀ (vs : List Value) (i : Nat) (X : World), X.setCells b i vs = putAll X b i vs
  | [], _, _ => rfl
  | v :: vs, i, X => by rw [World.setCells, putAll, putAll_eq b vs (i + 1)]
theorem wp_copyOut {P : Program} {id s1 s2 d : Nat} {t ty1 ty2 : TypeId} {pos1 pos2 : String} {af1 af2 : Array Edge} {Q : Exit → Act → World → Prop} {a : Act} {X : World} {b1 b2 : Nat} {vs zs : List Value} {fs : _}
    (ht : P.underlying t = some (.struct fs)) (hz : (P.info? t).map (·.size) = some vs.length)
    (h1 : a.eval (.tmp s1) = .pointer (some ⟨b1, 0, none⟩)) (h2 : ∀ v, (a.put (some d) v).eval (.tmp s2) = .pointer (some ⟨b2, 0, none⟩)) (h3 : ∀ v, (a.put (some d) v).eval (.tmp d) = v)
    (k1 : ∀ i v, vs[i]? = some v → X.cell? ⟨b1, i, none⟩ = some v) (k2 : ∀ i v, zs[i]? = some v → X.cell? ⟨b2, i, none⟩ = some v) (f2 : ∀ o, X.frozen? ⟨b2, o, none⟩ = false) (hl : zs.length = vs.length) (one : vs.all (·.oneCell') = true)
    (K : Q .normal (a.put (some d) (.agg vs.toArray)) (putAll X b2 0 vs)) :
    (Code.region id #[{ dst := some d, op := .load t (.tmp s1), type := ty1, pos := pos1, after := af1, guard := none }, { dst := none, op := .store t (.tmp s2) (.tmp d), type := ty2, pos := pos2, after := af2, guard := none }] false).wp P Q a X := by
  have hadd : ∀ i, (⟨b1, 0, none⟩ : Addr).add i = ⟨b1, i, none⟩ := fun i => by unfold Addr.add; split <;> simp_all
  have hL := run_loadCells_list (P := P) X ⟨b1, 0, none⟩ vs (fun j v hv => by rw [hadd]; exact k1 j v hv)
  have hS := run_storeCells_cells (P := P) b2 0 vs 0 X (fun j hj => by
      obtain ⟨z, hzz⟩ : ∃ z, zs[j]? = some z := ⟨zs[j]'(by omega), List.getElem?_eq_getElem _⟩
      have := k2 j z hzz
      simp only [Nat.zero_add]
      rw [this]; rfl) (fun j _ => f2 _) (fun v hv => List.all_eq_true.1 one v hv)
  rw [Nat.add_zero, putAll_eq] at hS
  obtain ⟨inf, hi, hsz⟩ := Option.map_eq_some_iff.1 hz
  refine wp_region_list ?_
  have hL' : (loadCellsFrom ⟨b1, 0, none⟩ 0 vs.length #[]).run P X = .ok vs.toArray X := hL
  have e1 : ∀ ρ : Operand → Value, ρ (.tmp s1) = .pointer (some ⟨b1, 0, none⟩) → (execOp ρ { dst := some d, op := .load t (.tmp s1), type := ty1, pos := pos1, after := af1, guard := none }).run P X = .ok (.value (.agg vs.toArray)) X := fun ρ h => by
    simp [execOp, Instr.loadAt, loadVar, isAgg, sizeOf, typeInfo, underlying, h, ht, hi, hsz, hL', go_sem]
  have e2 : ∀ ρ : Operand → Value, ρ (.tmp s2) = .pointer (some ⟨b2, 0, none⟩) → ρ (.tmp d) = .agg vs.toArray → (execOp ρ { dst := none, op := .store t (.tmp s2) (.tmp d), type := ty2, pos := pos2, after := af2, guard := none }).run P X = .ok .skip (putAll X b2 0 vs) := fun ρ h h' => by
    simp [execOp, Instr.storeAt, storeVar, sizeOf, typeInfo, h, h', hi, hsz, hS, Value.cells, go_sem]
  have w1 := e1 a.eval h1
  have w2 := e2 (a.put (some d) (.agg vs.toArray)).eval (h2 _) (h3 _)
  clear hL hL' hS e1 e2 h1 h2 h3
  unfold wpList
  rw [if_pos (by simp [Region.wanted])]
  refine .inl ?_
  unfold Oper.wp
  rw [w1]
  show wpList _ _ _ _ _ _
  unfold wpList
  rw [if_pos (by simp [Region.wanted])]
  refine .inl ?_
  unfold Oper.wp
  rw [w2]
  show wpList _ _ _ _ _ _
  unfold wpList
  exact K
theorem wpList_loadAll {P : Program} {ops : Array Oper} {rest : List Oper} {s d b : Nat} {t ty : TypeId} {pos : String} {af : Array Edge} {Q : Exit → Act → World → Prop} {a : Act} {X : World} {vs : List Value} {fs : _}
    (ht : P.underlying t = some (.struct fs)) (hz : (P.info? t).map (·.size) = some vs.length)
    (h1 : a.eval (.tmp s) = .pointer (some ⟨b, 0, none⟩))
    (k1 : ∀ i v, vs[i]? = some v → X.cell? ⟨b, i, none⟩ = some v)
    (K : wpList P ops Q rest (a.put (some d) (.agg vs.toArray)) X) :
    wpList P ops Q ({ dst := some d, op := .load t (.tmp s), type := ty, pos := pos, after := af, guard := none } :: rest) a X := by
  have hadd : ∀ i, (⟨b, 0, none⟩ : Addr).add i = ⟨b, i, none⟩ := fun i => by unfold Addr.add; split <;> simp_all
  have hL := run_loadCells_list (P := P) X ⟨b, 0, none⟩ vs (fun j v hv => by rw [hadd]; exact k1 j v hv)
  obtain ⟨inf, hi, hsz⟩ := Option.map_eq_some_iff.1 hz
  have hL' : (loadCellsFrom ⟨b, 0, none⟩ 0 vs.length #[]).run P X = .ok vs.toArray X := hL
  have e1 : ∀ ρ : Operand → Value, ρ (.tmp s) = .pointer (some ⟨b, 0, none⟩) → (execOp ρ { dst := some d, op := .load t (.tmp s), type := ty, pos := pos, after := af, guard := none }).run P X = .ok (.value (.agg vs.toArray)) X := fun ρ h => by
    simp [execOp, Instr.loadAt, loadVar, isAgg, sizeOf, typeInfo, underlying, h, ht, hi, hsz, hL', go_sem]
  have w1 := e1 a.eval h1
  clear hL hL' e1 h1
  unfold wpList
  rw [if_pos (by simp [Region.wanted])]
  refine .inl ?_
  unfold Oper.wp
  rw [w1]
  exact K
theorem wpList_storeNew {P : Program} {ops : Array Oper} {rest : List Oper} {s d : Nat} {t ty : TypeId} {pos : String} {af : Array Edge} {Q : Exit → Act → World → Prop} {a : Act} {X : World} {c c' : Array Value}
    (hz : (P.info? t).map (·.size) = some c'.size) (hl : c.size = c'.size) (one : c'.all (·.oneCell') = true)
    (h1 : a.eval (.tmp s) = .pointer (some ⟨X.heap.size, 0, none⟩)) (h2 : a.eval (.tmp d) = .agg c')
    (K : wpList P ops Q rest (a.put none undef) (X.alloc (.cells c' t))) :
    wpList P ops Q ({ dst := none, op := .store t (.tmp s) (.tmp d), type := ty, pos := pos, after := af, guard := none } :: rest) a (X.alloc (.cells c t)) := by
  have hS := run_storeCells_new (P := P) X t c c' hz hl one
  obtain ⟨inf, hi, hsz⟩ := Option.map_eq_some_iff.1 hz
  have e2 : ∀ ρ : Operand → Value, ρ (.tmp s) = .pointer (some ⟨X.heap.size, 0, none⟩) → ρ (.tmp d) = .agg c' → (execOp ρ { dst := none, op := .store t (.tmp s) (.tmp d), type := ty, pos := pos, after := af, guard := none }).run P (X.alloc (.cells c t)) = .ok .skip (X.alloc (.cells c' t)) := fun ρ h h' => by
    have hS' : (storeCells ⟨X.heap.size, 0, none⟩ c'.toList 0).run P (X.alloc (.cells c t)) = .ok () (X.alloc (.cells c' t)) := hS
    simp [execOp, Instr.storeAt, storeVar, sizeOf, typeInfo, h, h', hi, hsz, hS', Value.cells, go_sem]
  have w2 := e2 a.eval h1 h2
  clear hS e2 h1 h2
  unfold wpList
  rw [if_pos (by simp [Region.wanted])]
  refine .inl ?_
  unfold Oper.wp
  rw [w2]
  exact K
theorem operwp_storeNew {P : Program} {next : Act → World → Prop} {s d : Nat} {t ty : TypeId} {pos : String} {af : Array Edge} {Q : Exit → Act → World → Prop} {a : Act} {X : World} {c c' : Array Value}
    (hz : (P.info? t).map (·.size) = some c'.size) (hl : c.size = c'.size) (one : c'.all (·.oneCell') = true)
    (h1 : a.eval (.tmp s) = .pointer (some ⟨X.heap.size, 0, none⟩)) (h2 : a.eval (.tmp d) = .agg c')
    (K : next (a.put none undef) (X.alloc (.cells c' t))) :
    Oper.wp P { dst := none, op := .store t (.tmp s) (.tmp d), type := ty, pos := pos, after := af, guard := none } a (X.alloc (.cells c t)) next Q := by
  have hS := run_storeCells_new (P := P) X t c c' hz hl one
  obtain ⟨inf, hi, hsz⟩ := Option.map_eq_some_iff.1 hz
  have e2 : ∀ ρ : Operand → Value, ρ (.tmp s) = .pointer (some ⟨X.heap.size, 0, none⟩) → ρ (.tmp d) = .agg c' → (execOp ρ { dst := none, op := .store t (.tmp s) (.tmp d), type := ty, pos := pos, after := af, guard := none }).run P (X.alloc (.cells c t)) = .ok .skip (X.alloc (.cells c' t)) := fun ρ h h' => by
    have hS' : (storeCells ⟨X.heap.size, 0, none⟩ c'.toList 0).run P (X.alloc (.cells c t)) = .ok () (X.alloc (.cells c' t)) := hS
    simp [execOp, Instr.storeAt, storeVar, sizeOf, typeInfo, h, h', hi, hsz, hS', Value.cells, go_sem]
  have w2 := e2 a.eval h1 h2
  clear hS e2 h1 h2
  unfold Oper.wp
  rw [w2]
  exact K
theorem operwp_loadAll {P : Program} {next : Act → World → Prop} {s d b : Nat} {t ty : TypeId} {pos : String} {af : Array Edge} {Q : Exit → Act → World → Prop} {a : Act} {X : World} {vs : List Value} {fs : _}
    (ht : P.underlying t = some (.struct fs)) (hz : (P.info? t).map (·.size) = some vs.length)
    (h1 : a.eval (.tmp s) = .pointer (some ⟨b, 0, none⟩))
    (k1 : ∀ i v, vs[i]? = some v → X.cell? ⟨b, i, none⟩ = some v)
    (K : next (a.put (some d) (.agg vs.toArray)) X) :
    Oper.wp P { dst := some d, op := .load t (.tmp s), type := ty, pos := pos, after := af, guard := none } a X next Q := by
  have hadd : ∀ i, (⟨b, 0, none⟩ : Addr).add i = ⟨b, i, none⟩ := fun i => by unfold Addr.add; split <;> simp_all
  have hL := run_loadCells_list (P := P) X ⟨b, 0, none⟩ vs (fun j v hv => by rw [hadd]; exact k1 j v hv)
  obtain ⟨inf, hi, hsz⟩ := Option.map_eq_some_iff.1 hz
  have hL' : (loadCellsFrom ⟨b, 0, none⟩ 0 vs.length #[]).run P X = .ok vs.toArray X := hL
  have e1 : ∀ ρ : Operand → Value, ρ (.tmp s) = .pointer (some ⟨b, 0, none⟩) → (execOp ρ { dst := some d, op := .load t (.tmp s), type := ty, pos := pos, after := af, guard := none }).run P X = .ok (.value (.agg vs.toArray)) X := fun ρ h => by
    simp [execOp, Instr.loadAt, loadVar, isAgg, sizeOf, typeInfo, underlying, h, ht, hi, hsz, hL', go_sem]
  have w1 := e1 a.eval h1
  clear hL hL' e1 h1
  unfold Oper.wp
  rw [w1]
  exact K
theorem loads_of {P : Program} {X : World} {b n : Nat} {vs : List Value} (k1 : ∀ i v, vs[i]? = some v → X.cell? ⟨b, i, none⟩ = some v) (hl : vs.length = n) :
    (loadCellsFrom ⟨b, 0, none⟩ 0 n #[]).run P X = .ok vs.toArray X := by
  have hadd : ∀ i, (⟨b, 0, none⟩ : Addr).add i = ⟨b, i, none⟩ := fun i => by unfold Addr.add; split <;> simp_all
  have hL := run_loadCells_list (P := P) X ⟨b, 0, none⟩ vs (fun j v hv => by rw [hadd]; exact k1 j v hv)
  rw [hl] at hL
  exact hL
theorem range_of {X : World} {b : Nat} {vs : List Value} (k1 : ∀ i v, vs[i]? = some v → X.cell? ⟨b, i, none⟩ = some v) : X.rangeAt b 0 vs := fun j v h => by
  rw [Nat.zero_add]
  exact k1 j v h
end Go.Proofs.YtlbagfaiiileoaaDoor
/-
  Configs that are loaded and stored at once.
-/
namespace Go.Proofs.YtlbagfaiiileoaaDoor
open Go.ChangeShapes Go.WideShapes Go.ChangeAt Go.RowKit
theorem cfgL_size : (Tryd.prog.info? 28).map (·.size) = some 17 := by kernel_rfl
theorem cfgL_load {ops : Array Oper} {rest : List Oper} {s d b : Nat} {ty : TypeId} {pos : String} {af : Array Edge} {Q : Exit → Act → World → Prop} {a : Act} {X : World} {vs : List Value} (hl : vs.length = 17)
    (h1 : a.eval (.tmp s) = .pointer (some ⟨b, 0, none⟩)) (k1 : ∀ i v, vs[i]? = some v → X.cell? ⟨b, i, none⟩ = some v)
    (K : wpList Tryd.prog ops Q rest (a.put (some d) (.agg vs.toArray)) X) :
    wpList Tryd.prog ops Q ({ dst := some d, op := .load 28 (.tmp s), type := ty, pos := pos, after := af, guard := none } :: rest) a X :=
  wpList_loadAll Tryd.underlying28 (by rw [hl]; exact cfgL_size) h1 k1 K
theorem cfgL_loadW {next : Act → World → Prop} {s d b : Nat} {ty : TypeId} {pos : String} {af : Array Edge} {Q : Exit → Act → World → Prop} {a : Act} {X : World} {vs : List Value} (hl : vs.length = 17)
    (h1 : a.eval (.tmp s) = .pointer (some ⟨b, 0, none⟩)) (k1 : ∀ i v, vs[i]? = some v → X.cell? ⟨b, i, none⟩ = some v)
    (K : next (a.put (some d) (.agg vs.toArray)) X) :
    Oper.wp Tryd.prog { dst := some d, op := .load 28 (.tmp s), type := ty, pos := pos, after := af, guard := none } a X next Q :=
  operwp_loadAll Tryd.underlying28 (by rw [hl]; exact cfgL_size) h1 k1 K
theorem cfgI_size : (Tryd.prog.info? 34).map (·.size) = some 17 := by kernel_rfl
theorem cfgI_load {ops : Array Oper} {rest : List Oper} {s d b : Nat} {ty : TypeId} {pos : String} {af : Array Edge} {Q : Exit → Act → World → Prop} {a : Act} {X : World} {vs : List Value} (hl : vs.length = 17)
    (h1 : a.eval (.tmp s) = .pointer (some ⟨b, 0, none⟩)) (k1 : ∀ i v, vs[i]? = some v → X.cell? ⟨b, i, none⟩ = some v)
    (K : wpList Tryd.prog ops Q rest (a.put (some d) (.agg vs.toArray)) X) :
    wpList Tryd.prog ops Q ({ dst := some d, op := .load 34 (.tmp s), type := ty, pos := pos, after := af, guard := none } :: rest) a X :=
  wpList_loadAll Tryd.underlying34 (by rw [hl]; exact cfgI_size) h1 k1 K
theorem cfgI_loadW {next : Act → World → Prop} {s d b : Nat} {ty : TypeId} {pos : String} {af : Array Edge} {Q : Exit → Act → World → Prop} {a : Act} {X : World} {vs : List Value} (hl : vs.length = 17)
    (h1 : a.eval (.tmp s) = .pointer (some ⟨b, 0, none⟩)) (k1 : ∀ i v, vs[i]? = some v → X.cell? ⟨b, i, none⟩ = some v)
    (K : next (a.put (some d) (.agg vs.toArray)) X) :
    Oper.wp Tryd.prog { dst := some d, op := .load 34 (.tmp s), type := ty, pos := pos, after := af, guard := none } a X next Q :=
  operwp_loadAll Tryd.underlying34 (by rw [hl]; exact cfgI_size) h1 k1 K
theorem cfgI_store {next : Act → World → Prop} {s d : Nat} {ty : TypeId} {pos : String} {af : Array Edge} {Q : Exit → Act → World → Prop} {a : Act} {X : World} {c c' : Array Value} (hl : c'.size = 17) (hl2 : c.size = 17) (one : c'.toList.all (·.oneCell') = true)
    (h1 : a.eval (.tmp s) = .pointer (some ⟨X.heap.size, 0, none⟩)) (h2 : a.eval (.tmp d) = .agg c')
    (K : next (a.put none undef) (X.alloc (.cells c' 34))) :
    Oper.wp Tryd.prog { dst := none, op := .store 34 (.tmp s) (.tmp d), type := ty, pos := pos, after := af, guard := none } a (X.alloc (.cells c 34)) next Q :=
  operwp_storeNew (by rw [hl]; exact cfgI_size) (by rw [hl, hl2]) (by rw [← Array.all_toList]; exact one) h1 h2 K
end Go.Proofs.YtlbagfaiiileoaaDoor
/-
  The law of ConfigFault, over contracts.
-/
namespace Go.Proofs.YtlbagfaiiileoaaDoor
open Go.ChangeShapes Go.WideShapes Go.ChangeAt Go.RowKit
set_option linter.unusedSimpArgs false in
set_option maxRecDepth 100000 in
set_option maxHeartbeats 32000000 in
theorem walk_Cfg (w : World) (cb cg co cn ce cf ct cc : Int) (na : Option Addr) (nn nc : Nat) (ls lc lt r1 r2 r3 r4 r5 : Int) (cv : Int) (z1 : Int) (CA1 : Nat → Nat → Nat → World → Prop) (HZ1 : Hid (∀ X, Below w.heap.size w X → Calls Tryd.prog 4 #[.agg #[.int .i64 cb, .int .i64 cg, .int .i64 co, .int .i64 cn, .int .i64 ce, .int .i64 cf, .int .i64 ct, .int .i64 cc, .slice na nn nc, .int .i64 ls, .int .i64 lc, .int .i64 lt, .int .i64 r1, .int .i64 r2, .int .i64 r3, .int .i64 r4, .int .i64 r5], .int .i64 1048576] X fun e w' => e = .returned (.int .i64 z1) ∧ Below X.heap.size X w'))
    (HT1 : Hid (¬ z1 < 0 → ∀ X, Below w.heap.size w X → Calls Tryd.prog 6 #[.agg #[.int .i64 cb, .int .i64 cg, .int .i64 co, .int .i64 cn, .int .i64 ce, .int .i64 cf, .int .i64 ct, .int .i64 cc, .slice na nn nc, .int .i64 ls, .int .i64 lc, .int .i64 lt, .int .i64 r1, .int .i64 r2, .int .i64 r3, .int .i64 r4, .int .i64 r5]] X fun e w' => (∃ (G1 : Nat), e = .returned (.agg #[.int .i64 cb, .int .i64 cg, .int .i64 co, .int .i64 cn, .int .i64 ce, .int .i64 cf, .int .i64 ct, .int .i64 cc, .slice (some ⟨G1, 0, none⟩) nn nn, .int .i64 ls, .int .i64 lc, .int .i64 lt, .int .i64 r1, .int .i64 r2, .int .i64 r3, .int .i64 r4, .int .i64 r5]) ∧ At X.heap.size w'.heap.size (CA1 G1) w') ∧ Below X.heap.size X w'))
    (HQ1 : Hid (¬ z1 < 0 → ∀ X la ha lb hb (G1x : Nat) (G1y : Nat), At la ha (CA1 G1x) X → At lb hb (CA1 G1y) X → Calls Tryd.prog 8 #[.agg #[.int .i64 cb, .int .i64 cg, .int .i64 co, .int .i64 cn, .int .i64 ce, .int .i64 cf, .int .i64 ct, .int .i64 cc, .slice (some ⟨G1x, 0, none⟩) nn nn, .int .i64 ls, .int .i64 lc, .int .i64 lt, .int .i64 r1, .int .i64 r2, .int .i64 r3, .int .i64 r4, .int .i64 r5], .agg #[.int .i64 cb, .int .i64 cg, .int .i64 co, .int .i64 cn, .int .i64 ce, .int .i64 cf, .int .i64 ct, .int .i64 cc, .slice (some ⟨G1y, 0, none⟩) nn nn, .int .i64 ls, .int .i64 lc, .int .i64 lt, .int .i64 r1, .int .i64 r2, .int .i64 r3, .int .i64 r4, .int .i64 r5]] X fun e w' => e = .returned (.bool true) ∧ Below X.heap.size X w'))
    (HF : Hid (¬ z1 < 0 → ∀ X l1 h1 (G1 : Nat), Below w.heap.size w X → At l1 h1 (CA1 G1) X → Calls Tryd.prog 5 #[.agg #[.int .i64 cb, .int .i64 cg, .int .i64 co, .int .i64 cn, .int .i64 ce, .int .i64 cf, .int .i64 ct, .int .i64 cc, .slice (some ⟨G1, 0, none⟩) nn nn, .int .i64 ls, .int .i64 lc, .int .i64 lt, .int .i64 r1, .int .i64 r2, .int .i64 r3, .int .i64 r4, .int .i64 r5]] X fun e w' => e = .returned (.int .i64 cv) ∧ Below X.heap.size X w'))
    (HG : Hid (¬ z1 < 0 → ∀ X l1 h1 (G1 : Nat), Below w.heap.size w X → At l1 h1 (CA1 G1) X → Calls Tryd.prog 7 #[.agg #[.int .i64 cb, .int .i64 cg, .int .i64 co, .int .i64 cn, .int .i64 ce, .int .i64 cf, .int .i64 ct, .int .i64 cc, .slice (some ⟨G1, 0, none⟩) nn nn, .int .i64 ls, .int .i64 lc, .int .i64 lt, .int .i64 r1, .int .i64 r2, .int .i64 r3, .int .i64 r4, .int .i64 r5]] X fun e w' => e = .returned (.int .i64 cv) ∧ Below X.heap.size X w')) :
    Calls Tryd.prog 3 #[.agg #[.int .i64 cb, .int .i64 cg, .int .i64 co, .int .i64 cn, .int .i64 ce, .int .i64 cf, .int .i64 ct, .int .i64 cc, .slice na nn nc, .int .i64 ls, .int .i64 lc, .int .i64 lt, .int .i64 r1, .int .i64 r2, .int .i64 r3, .int .i64 r4, .int .i64 r5]] w fun e w' => e = .returned (.bool true) ∧ Below w.heap.size w w' := by
  obtain ⟨W, hW⟩ : ∃ W, W = (w.alloc (.cells #[.int .i64 cb, .int .i64 cg, .int .i64 co, .int .i64 cn, .int .i64 ce, .int .i64 cf, .int .i64 ct, .int .i64 cc, .slice na nn nc, .int .i64 ls, .int .i64 lc, .int .i64 lt, .int .i64 r1, .int .i64 r2, .int .i64 r3, .int .i64 r4, .int .i64 r5] 28)) := ⟨_, rfl⟩
  have HW : Hid (W = (w.alloc (.cells #[.int .i64 cb, .int .i64 cg, .int .i64 co, .int .i64 cn, .int .i64 ce, .int .i64 cf, .int .i64 ct, .int .i64 cc, .slice na nn nc, .int .i64 ls, .int .i64 lc, .int .i64 lt, .int .i64 r1, .int .i64 r2, .int .i64 r3, .int .i64 r4, .int .i64 r5] 28))) := hW
  have KW : Hid (Below w.heap.size w W) := by rw [hW]; exact ((Below.refl _ _).alloc (Nat.le_refl _) _)
  have SW : Hid (w.heap.size + 1 ≤ W.heap.size) := by rw [hW]; show _ ≤ _; simp
  have FA1_0 : Hid (At w.heap.size (w.heap.size + 1) (Bx w.heap.size [.int .i64 cb, .int .i64 cg, .int .i64 co, .int .i64 cn, .int .i64 ce, .int .i64 cf, .int .i64 ct, .int .i64 cc, .slice na nn nc, .int .i64 ls, .int .i64 lc, .int .i64 lt, .int .i64 r1, .int .i64 r2, .int .i64 r3, .int .i64 r4, .int .i64 r5]) W) := by rw [hW]; exact Bx.newAt rfl [.int .i64 cb, .int .i64 cg, .int .i64 co, .int .i64 cn, .int .i64 ce, .int .i64 cf, .int .i64 ct, .int .i64 cc, .slice na nn nc, .int .i64 ls, .int .i64 lc, .int .i64 lt, .int .i64 r1, .int .i64 r2, .int .i64 r3, .int .i64 r4, .int .i64 r5] _
  clear hW
  go_enter Tryd.func3, Tryd.ntmps3
  go_upto_region 2 with fail
  rw [← HW.out]
  clear HW
  have LFA1_0 := hidL FA1_0.out.val.1
  go_wp2_with (first | ((with_reducible refine cfgL_load (b := w.heap.size) (vs := [.int .i64 cb, .int .i64 cg, .int .i64 co, .int .i64 cn, .int .i64 ce, .int .i64 cf, .int .i64 ct, .int .i64 cc, .slice na nn nc, .int .i64 ls, .int .i64 lc, .int .i64 lt, .int .i64 r1, .int .i64 r2, .int .i64 r3, .int .i64 r4, .int .i64 r5]) ?_ ?_ LFA1_0.out ?_); exact rfl; exact rfl))
  clear LFA1_0
  refine (HZ1.out  _ KW.out).mono ?_
  rintro e0 w1 ⟨rfl, hb⟩
  have K2 : Hid (Below w.heap.size w w1) := KW.out.trans (hb.mono KW.out.size)
  have F3 : Hid (At w.heap.size (w.heap.size + 1) (Bx w.heap.size [.int .i64 cb, .int .i64 cg, .int .i64 co, .int .i64 cn, .int .i64 ce, .int .i64 cf, .int .i64 ct, .int .i64 cc, .slice na nn nc, .int .i64 ls, .int .i64 lc, .int .i64 lt, .int .i64 r1, .int .i64 r2, .int .i64 r3, .int .i64 r4, .int .i64 r5]) w1) := FA1_0.out.keep hb
  clear KW FA1_0 hb
  clear HZ1
  by_cases cz1 : z1 < 0
  · clear HT1 HQ1 HF HG F3 SW
    go_wp2_with fail
    go_ret
    exact ⟨rfl, K2.out⟩
  replace HT1 := hidL (HT1.out (by omega))
  replace HQ1 := hidL (HQ1.out (by omega))
  replace HF := hidL (HF.out (by omega))
  replace HG := hidL (HG.out (by omega))
  have LF3 := hidL F3.out.val.1
  go_wp2_with (first | ((with_reducible refine cfgL_load (b := w.heap.size) (vs := [.int .i64 cb, .int .i64 cg, .int .i64 co, .int .i64 cn, .int .i64 ce, .int .i64 cf, .int .i64 ct, .int .i64 cc, .slice na nn nc, .int .i64 ls, .int .i64 lc, .int .i64 lt, .int .i64 r1, .int .i64 r2, .int .i64 r3, .int .i64 r4, .int .i64 r5]) ?_ ?_ LF3.out ?_); exact rfl; exact rfl))
  clear LF3
  refine (HT1.out _ K2.out).mono ?_
  rintro e0 w4 ⟨⟨G1s, rfl, ca⟩, hb⟩
  have K5 : Hid (Below w.heap.size w w4) := K2.out.trans (hb.mono K2.out.size)
  have F6 : Hid (At w.heap.size (w.heap.size + 1) (Bx w.heap.size [.int .i64 cb, .int .i64 cg, .int .i64 co, .int .i64 cn, .int .i64 ce, .int .i64 cf, .int .i64 ct, .int .i64 cc, .slice na nn nc, .int .i64 ls, .int .i64 lc, .int .i64 lt, .int .i64 r1, .int .i64 r2, .int .i64 r3, .int .i64 r4, .int .i64 r5]) w4) := F3.out.keep hb
  clear K2 F3 hb
  have CA_s : Hid (At w1.heap.size w4.heap.size (CA1 G1s) w4) := ca
  clear ca
  go_wp2_with fail
  refine (HF.out _ _ _ _ K5.out CA_s.out).mono ?_
  rintro e0 w7 ⟨rfl, hb⟩
  have K8 : Hid (Below w.heap.size w w7) := K5.out.trans (hb.mono K5.out.size)
  have F9 : Hid (At w.heap.size (w.heap.size + 1) (Bx w.heap.size [.int .i64 cb, .int .i64 cg, .int .i64 co, .int .i64 cn, .int .i64 ce, .int .i64 cf, .int .i64 ct, .int .i64 cc, .slice na nn nc, .int .i64 ls, .int .i64 lc, .int .i64 lt, .int .i64 r1, .int .i64 r2, .int .i64 r3, .int .i64 r4, .int .i64 r5]) w7) := F6.out.keep hb
  clear K5 F6 hb
  clear CA_s
  clear HF
  have LF9 := hidL F9.out.val.1
  go_wp2_with (first | ((with_reducible refine cfgL_load (b := w.heap.size) (vs := [.int .i64 cb, .int .i64 cg, .int .i64 co, .int .i64 cn, .int .i64 ce, .int .i64 cf, .int .i64 ct, .int .i64 cc, .slice na nn nc, .int .i64 ls, .int .i64 lc, .int .i64 lt, .int .i64 r1, .int .i64 r2, .int .i64 r3, .int .i64 r4, .int .i64 r5]) ?_ ?_ LF9.out ?_); exact rfl; exact rfl))
  clear LF9
  refine (HT1.out _ K8.out).mono ?_
  rintro e0 w10 ⟨⟨G1x1, rfl, ca⟩, hb⟩
  obtain ⟨l11, hl11⟩ : ∃ n, w7.heap.size = n := ⟨_, rfl⟩
  obtain ⟨h12, hh12⟩ : ∃ n, w10.heap.size = n := ⟨_, rfl⟩
  have O13 : Hid ((w.heap.size + 1) ≤ l11 ∧ w.heap.size ≤ l11 ∧ l11 ≤ h12) := ⟨(by rw [← hl11]; exact F9.out.le), (by rw [← hl11]; exact K8.out.size), (by rw [← hl11, ← hh12]; exact hb.size)⟩
  have F14 : Hid (At l11 h12 (CA1 G1x1) w10) := by rw [← hl11, ← hh12]; exact ca
  clear ca hl11 hh12
  have K15 : Hid (Below w.heap.size w w10) := K8.out.trans (hb.mono K8.out.size)
  have F16 : Hid (At w.heap.size (w.heap.size + 1) (Bx w.heap.size [.int .i64 cb, .int .i64 cg, .int .i64 co, .int .i64 cn, .int .i64 ce, .int .i64 cf, .int .i64 ct, .int .i64 cc, .slice na nn nc, .int .i64 ls, .int .i64 lc, .int .i64 lt, .int .i64 r1, .int .i64 r2, .int .i64 r3, .int .i64 r4, .int .i64 r5]) w10) := F9.out.keep hb
  clear K8 F9 hb
  obtain ⟨V17, hV17⟩ : ∃ V, V = w10.alloc (.cells #[.int .i64 cb, .int .i64 cg, .int .i64 co, .int .i64 cn, .int .i64 ce, .int .i64 cf, .int .i64 ct, .int .i64 cc, .slice (some ⟨G1x1, 0, none⟩) nn nn, .int .i64 ls, .int .i64 lc, .int .i64 lt, .int .i64 r1, .int .i64 r2, .int .i64 r3, .int .i64 r4, .int .i64 r5] 34) := ⟨_, rfl⟩
  have HV17 : Hid (V17 = w10.alloc (.cells #[.int .i64 cb, .int .i64 cg, .int .i64 co, .int .i64 cn, .int .i64 ce, .int .i64 cf, .int .i64 ct, .int .i64 cc, .slice (some ⟨G1x1, 0, none⟩) nn nn, .int .i64 ls, .int .i64 lc, .int .i64 lt, .int .i64 r1, .int .i64 r2, .int .i64 r3, .int .i64 r4, .int .i64 r5] 34)) := hV17
  have ab : Below w10.heap.size w10 V17 := by rw [hV17]; exact (Below.refl _ _).alloc (Nat.le_refl _) _
  have F18 : Hid (At w10.heap.size (w10.heap.size + 1) (Bx w10.heap.size [.int .i64 cb, .int .i64 cg, .int .i64 co, .int .i64 cn, .int .i64 ce, .int .i64 cf, .int .i64 ct, .int .i64 cc, .slice (some ⟨G1x1, 0, none⟩) nn nn, .int .i64 ls, .int .i64 lc, .int .i64 lt, .int .i64 r1, .int .i64 r2, .int .i64 r3, .int .i64 r4, .int .i64 r5]) V17) := by rw [hV17]; exact Bx.new _ _ _
  have O19 : Hid ((w.heap.size + 1) ≤ w10.heap.size ∧ h12 ≤ w10.heap.size ∧ w.heap.size ≤ w10.heap.size) := ⟨F16.out.le, F14.out.le, K15.out.size⟩
  have K20 : Hid (Below w.heap.size w V17) := K15.out.trans (ab.mono K15.out.size)
  have F21 : Hid (At w.heap.size (w.heap.size + 1) (Bx w.heap.size [.int .i64 cb, .int .i64 cg, .int .i64 co, .int .i64 cn, .int .i64 ce, .int .i64 cf, .int .i64 ct, .int .i64 cc, .slice na nn nc, .int .i64 ls, .int .i64 lc, .int .i64 lt, .int .i64 r1, .int .i64 r2, .int .i64 r3, .int .i64 r4, .int .i64 r5]) V17) := F16.out.keep ab
  have F22 : Hid (At l11 h12 (CA1 G1x1) V17) := F14.out.keep ab
  clear K15 F16 F14
  clear ab hV17
  have LF21 := hidL F21.out.val.1
  have LF18 := hidL F18.out.val.1
  go_upto_region 7 with (first | ((with_reducible refine cfgL_load (b := w.heap.size) (vs := [.int .i64 cb, .int .i64 cg, .int .i64 co, .int .i64 cn, .int .i64 ce, .int .i64 cf, .int .i64 ct, .int .i64 cc, .slice na nn nc, .int .i64 ls, .int .i64 lc, .int .i64 lt, .int .i64 r1, .int .i64 r2, .int .i64 r3, .int .i64 r4, .int .i64 r5]) ?_ ?_ LF21.out ?_); exact rfl; exact rfl) | ((with_reducible refine cfgI_load (b := w10.heap.size) (vs := [.int .i64 cb, .int .i64 cg, .int .i64 co, .int .i64 cn, .int .i64 ce, .int .i64 cf, .int .i64 ct, .int .i64 cc, .slice (some ⟨G1x1, 0, none⟩) nn nn, .int .i64 ls, .int .i64 lc, .int .i64 lt, .int .i64 r1, .int .i64 r2, .int .i64 r3, .int .i64 r4, .int .i64 r5]) ?_ ?_ LF18.out ?_); exact rfl; exact rfl) | ((with_reducible refine cfgI_store (c' := #[.int .i64 cb, .int .i64 cg, .int .i64 co, .int .i64 cn, .int .i64 ce, .int .i64 cf, .int .i64 ct, .int .i64 cc, .slice (some ⟨G1x1, 0, none⟩) nn nn, .int .i64 ls, .int .i64 lc, .int .i64 lt, .int .i64 r1, .int .i64 r2, .int .i64 r3, .int .i64 r4, .int .i64 r5]) ?_ ?_ ?_ ?_ ?_ ?_); exact rfl; exact rfl; exact rfl; exact rfl; exact rfl))
  clear LF21 LF18
  rw [← HV17.out]
  clear HV17
  generalize w10.heap.size = x23 at *
  have LF21 := hidL F21.out.val.1
  have LF18 := hidL F18.out.val.1
  go_wp2_with (first | ((with_reducible refine cfgL_load (b := w.heap.size) (vs := [.int .i64 cb, .int .i64 cg, .int .i64 co, .int .i64 cn, .int .i64 ce, .int .i64 cf, .int .i64 ct, .int .i64 cc, .slice na nn nc, .int .i64 ls, .int .i64 lc, .int .i64 lt, .int .i64 r1, .int .i64 r2, .int .i64 r3, .int .i64 r4, .int .i64 r5]) ?_ ?_ LF21.out ?_); exact rfl; exact rfl) | ((with_reducible refine cfgI_load (b := x23) (vs := [.int .i64 cb, .int .i64 cg, .int .i64 co, .int .i64 cn, .int .i64 ce, .int .i64 cf, .int .i64 ct, .int .i64 cc, .slice (some ⟨G1x1, 0, none⟩) nn nn, .int .i64 ls, .int .i64 lc, .int .i64 lt, .int .i64 r1, .int .i64 r2, .int .i64 r3, .int .i64 r4, .int .i64 r5]) ?_ ?_ LF18.out ?_); exact rfl; exact rfl))
  clear LF21 LF18
  refine (HG.out _ _ _ _ K20.out F22.out).mono ?_
  rintro e0 w24 ⟨rfl, hb⟩
  have K25 : Hid (Below w.heap.size w w24) := K20.out.trans (hb.mono K20.out.size)
  have F26 : Hid (At w.heap.size (w.heap.size + 1) (Bx w.heap.size [.int .i64 cb, .int .i64 cg, .int .i64 co, .int .i64 cn, .int .i64 ce, .int .i64 cf, .int .i64 ct, .int .i64 cc, .slice na nn nc, .int .i64 ls, .int .i64 lc, .int .i64 lt, .int .i64 r1, .int .i64 r2, .int .i64 r3, .int .i64 r4, .int .i64 r5]) w24) := F21.out.keep hb
  have F27 : Hid (At l11 h12 (CA1 G1x1) w24) := F22.out.keep hb
  have F28 : Hid (At x23 (x23 + 1) (Bx x23 [.int .i64 cb, .int .i64 cg, .int .i64 co, .int .i64 cn, .int .i64 ce, .int .i64 cf, .int .i64 ct, .int .i64 cc, .slice (some ⟨G1x1, 0, none⟩) nn nn, .int .i64 ls, .int .i64 lc, .int .i64 lt, .int .i64 r1, .int .i64 r2, .int .i64 r3, .int .i64 r4, .int .i64 r5]) w24) := F18.out.keep hb
  clear K20 F21 F22 F18 hb
  clear HG
  have HKS : Hid (∀ X, Below w24.heap.size w24 X → X.rangeAt w.heap.size 0 [.int .i64 cb, .int .i64 cg, .int .i64 co, .int .i64 cn, .int .i64 ce, .int .i64 cf, .int .i64 ct, .int .i64 cc, .slice na nn nc, .int .i64 ls, .int .i64 lc, .int .i64 lt, .int .i64 r1, .int .i64 r2, .int .i64 r3, .int .i64 r4, .int .i64 r5] ∧ X.rangeAt x23 0 [.int .i64 cb, .int .i64 cg, .int .i64 co, .int .i64 cn, .int .i64 ce, .int .i64 cf, .int .i64 ct, .int .i64 cc, .slice (some ⟨G1x1, 0, none⟩) nn nn, .int .i64 ls, .int .i64 lc, .int .i64 lt, .int .i64 r1, .int .i64 r2, .int .i64 r3, .int .i64 r4, .int .i64 r5]) := fun X hX => ⟨range_of (F26.out.keep hX).val.1, range_of (F28.out.keep hX).val.1⟩
  have B0 : Hid (Below w24.heap.size w24 w24.drew) := (Below.refl _ _).drew
  have KB0 : Hid (Below w.heap.size w w24.drew) := K25.out.trans (B0.out.mono K25.out.size)
  go_upto_region 10 with fail
  refine wp_region_held_drew (S := fun X => X.rangeAt w.heap.size 0 [.int .i64 cb, .int .i64 cg, .int .i64 co, .int .i64 cn, .int .i64 ce, .int .i64 cf, .int .i64 ct, .int .i64 cc, .slice na nn nc, .int .i64 ls, .int .i64 lc, .int .i64 lt, .int .i64 r1, .int .i64 r2, .int .i64 r3, .int .i64 r4, .int .i64 r5] ∧ X.rangeAt x23 0 [.int .i64 cb, .int .i64 cg, .int .i64 co, .int .i64 cn, .int .i64 ce, .int .i64 cf, .int .i64 ct, .int .i64 cc, .slice (some ⟨G1x1, 0, none⟩) nn nn, .int .i64 ls, .int .i64 lc, .int .i64 lt, .int .i64 r1, .int .i64 r2, .int .i64 r3, .int .i64 r4, .int .i64 r5]) (by kernel_rfl) ?_ (fun hHeld => ?_)
  · exact HKS.out _ B0.out
  refine' wpAnyH_take (i := 0) (oi := _) (v := _) rfl (by kernel_rfl) (by kernel_rfl) (by kernel_rfl) (fun _ _ _ h => h) (yieldsIf_load_mid (by rfl) _ _ rfl (x23) 0 rfl _ _ (fun _ h => h.2) Tryd.underlying34 rfl cfgI_size) hHeld ?_
  (try simp only [Act.put, List.setIfInBounds_toArray, List.set_cons_zero, List.set_cons_succ])
  refine' wpAnyH_take (i := 1) (oi := _) (v := _) rfl (by kernel_rfl) (by kernel_rfl) (by kernel_rfl) (fun _ _ _ h => h) (yieldsIf_load_mid (by rfl) _ _ rfl (w.heap.size) 0 rfl _ _ (fun _ h => h.1) Tryd.underlying28 rfl cfgL_size) hHeld ?_
  (try simp only [Act.put, List.setIfInBounds_toArray, List.set_cons_zero, List.set_cons_succ])
  refine wpAnyH_ready (rs := [2]) (by kernel_rfl) (by simp) ?_
  refine AllReadyH.cons (o := _) rfl (fun K hK => ?_) AllReadyH.nil
  go_simp
  (with_reducible refine (HT1.out w24.drew KB0.out).mono ?_)
  rintro e0 w29 ⟨⟨G1t, rfl, ca⟩, hb⟩
  have BA : Hid (Below w24.heap.size w24 w29) := B0.out.trans (hb.mono B0.out.size)
  have MA := hidL ca
  clear ca hb
  go_wp2_with fail
  refine hK.out _ _ ?_ (fun hHeld => ?_)
  · exact HKS.out _ BA.out
  clear hK
  (try simp only [Act.put, List.setIfInBounds_toArray, List.set_cons_zero, List.set_cons_succ])
  refine wpAnyH_ready (rs := [3]) (by kernel_rfl) (by simp) ?_
  refine AllReadyH.cons (o := _) rfl (fun K hK => ?_) AllReadyH.nil
  go_simp
  (with_reducible refine (HQ1.out w29 _ _ _ _ _ _ (F27.out.keep BA.out) MA.out).mono ?_)
  rintro e0 w30 ⟨rfl, hb⟩
  have BB : Hid (Below w24.heap.size w24 w30) := BA.out.trans (hb.mono BA.out.size)
  clear hb
  go_wp2_with fail
  refine hK.out _ _ ?_ (fun hHeld => ?_)
  · exact HKS.out _ BB.out
  clear hK
  (try simp only [Act.put, List.setIfInBounds_toArray, List.set_cons_zero, List.set_cons_succ])
  refine wpAnyH_ready (rs := [4]) (by kernel_rfl) (by simp) ?_
  refine AllReadyH.cons (o := _) rfl (fun K hK => ?_) AllReadyH.nil
  go_simp
  refine hK.out _ _ ?_ (fun hHeld => ?_)
  · exact HKS.out _ BB.out
  clear hK
  (try simp only [Act.put, List.setIfInBounds_toArray, List.set_cons_zero, List.set_cons_succ])
  refine wpAnyH_done (by kernel_rfl) ?_ _
  clear hHeld
  have K31 : Hid (Below w.heap.size w w30) := K25.out.trans (BB.out.mono K25.out.size)
  have F32 : Hid (At w.heap.size (w.heap.size + 1) (Bx w.heap.size [.int .i64 cb, .int .i64 cg, .int .i64 co, .int .i64 cn, .int .i64 ce, .int .i64 cf, .int .i64 ct, .int .i64 cc, .slice na nn nc, .int .i64 ls, .int .i64 lc, .int .i64 lt, .int .i64 r1, .int .i64 r2, .int .i64 r3, .int .i64 r4, .int .i64 r5]) w30) := F26.out.keep BB.out
  have F33 : Hid (At l11 h12 (CA1 G1x1) w30) := F27.out.keep BB.out
  have F34 : Hid (At x23 (x23 + 1) (Bx x23 [.int .i64 cb, .int .i64 cg, .int .i64 co, .int .i64 cn, .int .i64 ce, .int .i64 cf, .int .i64 ct, .int .i64 cc, .slice (some ⟨G1x1, 0, none⟩) nn nn, .int .i64 ls, .int .i64 lc, .int .i64 lt, .int .i64 r1, .int .i64 r2, .int .i64 r3, .int .i64 r4, .int .i64 r5]) w30) := F28.out.keep BB.out
  clear K25 F26 F27 F28
  clear HKS B0 BA BB MA KB0
  clear HQ1
  go_wp2_with fail
  go_ret
  exact ⟨rfl, K31.out⟩
end Go.Proofs.YtlbagfaiiileoaaDoor
/-
  Facts that hang on stretches of blocks, one behind the other.
-/
namespace Go.Proofs.YtlbagfaiiileoaaDoor
open Go.ChangeShapes Go.WideShapes Go.ChangeAt Go.RowKit
/-- What hangs on a stretch within. -/
def Wide (A : Nat → Nat → World → Prop) (lo hi : Nat) (X : World) : Prop := ∃ l h, lo ≤ l ∧ l ≤ h ∧ h ≤ hi ∧ At l h A X
/-- Both, one behind the other. -/
def Bef (A B : Nat → Nat → World → Prop) (lo hi : Nat) (X : World) : Prop := ∃ l h m n, lo ≤ l ∧ l ≤ h ∧ h ≤ m ∧ m ≤ n ∧ n ≤ hi ∧ At l h A X ∧ At m n B X
theorem At.mv {l h lo hi : Nat} {A : Nat → Nat → World → Prop} {X X' : World} (k : At l h A X) (h0 : lo ≤ l) (h1 : h ≤ hi) (s : X.heap.size ≤ X'.heap.size) (hc : ∀ b o, lo ≤ b → b < hi → X'.cell? ⟨b, o, none⟩ = X.cell? ⟨b, o, none⟩ ∧ X'.frozen? ⟨b, o, none⟩ = X.frozen? ⟨b, o, none⟩) : At l h A X' :=
  ⟨Nat.le_trans k.le s, k.dep, k.dep X X' k.le s (fun b o h2 h3 => hc b o (Nat.le_trans h0 h2) (Nat.lt_of_lt_of_le h3 h1)) k.val⟩
theorem Wide.dep (A : Nat → Nat → World → Prop) (lo hi : Nat) : Dep lo hi (Wide A lo hi) := fun X X' _ h2 hc k => by
  obtain ⟨l, h, a, b, c, d⟩ := k
  exact ⟨l, h, a, b, c, d.mv a c h2 hc⟩
theorem Bef.dep (A B : Nat → Nat → World → Prop) (lo hi : Nat) : Dep lo hi (Bef A B lo hi) := fun X X' _ h2 hc k => by
  obtain ⟨l, h, m, n, a, b, c, d, e, f, g⟩ := k
  exact ⟨l, h, m, n, a, b, c, d, e, f.mv a (by omega) h2 hc, g.mv (by omega) e h2 hc⟩
theorem Wide.at {A : Nat → Nat → World → Prop} {l h : Nat} {X : World} (k : At l h A X) (hl : l ≤ h) : At l h (Wide A) X := ⟨k.le, Wide.dep _ _ _, l, h, Nat.le_refl _, hl, Nat.le_refl _, k⟩
theorem Bef.at {A B : Nat → Nat → World → Prop} {l h m n : Nat} {X : World} (k : At l h A X) (j : At m n B X) (hl : l ≤ h ∧ h ≤ m ∧ m ≤ n) : At l n (Bef A B) X := ⟨j.le, Bef.dep _ _ _ _, l, h, m, n, Nat.le_refl _, hl.1, hl.2.1, hl.2.2, Nat.le_refl _, k, j⟩
theorem At.wideW {A : Nat → Nat → World → Prop} {l h lo hi : Nat} {X : World} (k : At l h (Wide A) X) (h0 : lo ≤ l) (h1 : h ≤ hi) (h2 : hi ≤ X.heap.size) : At lo hi (Wide A) X := by
  obtain ⟨a, b, c, d, e, f⟩ := k.val
  exact ⟨h2, Wide.dep _ _ _, a, b, by omega, d, by omega, f⟩
theorem At.wideB {A B : Nat → Nat → World → Prop} {l h lo hi : Nat} {X : World} (k : At l h (Bef A B) X) (h0 : lo ≤ l) (h1 : h ≤ hi) (h2 : hi ≤ X.heap.size) : At lo hi (Bef A B) X := by
  obtain ⟨a, b, c, d, e, f, g, i, j, m, n⟩ := k.val
  exact ⟨h2, Bef.dep _ _ _ _, a, b, c, d, by omega, f, g, i, by omega, m, n⟩
end Go.Proofs.YtlbagfaiiileoaaDoor
/-
  Head lines in memory; the laws' own helpers over them.
-/
namespace Go.Proofs.YtlbagfaiiileoaaDoor
open Go.ChangeShapes Go.WideShapes Go.ChangeAt Go.RowKit
/-- A head line: its name and its value. -/
structure Hdr where
  name : ByteArray
  value : ByteArray
/-- The lines l lie in block b from off on, two cells each. -/
def HeadsAt (w : World) (b off : Nat) (l : List Hdr) : Prop :=
  ∀ (i : Nat) r, l[i]? = some r → w.cell? ⟨b, off + i * 2, none⟩ = some (.string r.name) ∧ w.cell? ⟨b, off + i * 2 + 1, none⟩ = some (.string r.value)
def hdrV (r : Hdr) : Value := .agg #[.string r.name, .string r.value]
def szH (left : Int) (r : Hdr) : Int := if left - (r.name.size : Int) < 0 then -1 else if left - (r.name.size : Int) - (r.value.size : Int) < 0 then -1 else left - (r.name.size : Int) - (r.value.size : Int)
/-- How much room is left behind the items; -1: none. -/
def szHs (left : Int) : List Hdr → Int
  | [] => left
  | r :: l => if szH left r < 0 then -1 else szHs (szH left r) l
def szHL (left : Int) (l : List Hdr) : Int := if left - (l.length : Int) < 0 then -1 else szHs (left - (l.length : Int)) l
def SmallHdrs (l : List Hdr) : Prop := ∀ (i : Nat) r, l[i]? = some r → r.name.size ≤ maxLen ∧ r.value.size ≤ maxLen
theorem HeadsAt.keep {w w' : World} {b off : Nat} {l : List Hdr} (h : HeadsAt w b off l) (hb : Below w.heap.size w w') : HeadsAt w' b off l := by
  intro i r hr
  obtain ⟨a1, a3⟩ := h i r hr
  exact ⟨by rw [hb.cell (block_lt_of_cell a1)]; exact a1, by rw [hb.cell (block_lt_of_cell a3)]; exact a3⟩
theorem szH_le (left : Int) (r : Hdr) : szH left r ≤ left ∨ szH left r = -1 := by
  unfold szH
  split
  · exact .inr rfl
  · split
    · exact .inr rfl
    · left; omega
theorem drop_hdr (l : List Hdr) (k : Nat) (r : Hdr) (h : l[k]? = some r) : l.drop k = r :: l.drop (k + 1) := by
  obtain ⟨hk, rfl⟩ := List.getElem?_eq_some_iff.1 h
  exact List.drop_eq_getElem_cons hk
end Go.Proofs.YtlbagfaiiileoaaDoor
/-
  The laws' copy of a list of items, and their comparing of two.
-/
namespace Go.Proofs.YtlbagfaiiileoaaDoor
open Go.ChangeShapes Go.WideShapes Go.ChangeAt Go.RowKit Go.Sort
/-- m cells from the head of block G on are there and may be written. -/
def HRoom (w : World) (G m : Nat) : Prop := ∀ j, j < m → (∃ u, w.cell? ⟨G, j, none⟩ = some u) ∧ w.frozen? ⟨G, j, none⟩ = false
theorem HRoom.keep {w w' : World} {G m : Nat} (h : HRoom w G m) (hb : Below w.heap.size w w') : HRoom w' G m := by
  intro j hj
  obtain ⟨⟨u, hu⟩, hf⟩ := h j hj
  exact ⟨⟨u, by rw [hb.cell (block_lt_of_cell hu)]; exact hu⟩, by rw [hb.frozen (block_lt_of_cell hu)]; exact hf⟩
theorem HRoom.set {w : World} {G m : Nat} (h : HRoom w G m) (a : Addr) (v : Value) : HRoom (w.setCell a v) G m := by
  intro j hj
  obtain ⟨⟨u, hu⟩, hf⟩ := h j hj
  refine ⟨?_, by rw [World.frozen?_setCell]; exact hf⟩
  by_cases e : a = ⟨G, j, none⟩
  · exact ⟨v, by subst e; exact World.cell?_setCell_same _ _ _ hu⟩
  · exact ⟨u, by rw [World.cell?_setCell_other _ _ _ _ e]; exact hu⟩
def put2 (w : World) (G k : Nat) (r : Hdr) : World := (w.setCell ⟨G, k * 2, none⟩ (.string r.name)).setCell ⟨G, k * 2 + 1, none⟩ (.string r.value)
theorem hoff_ne {G i j : Nat} (h : i ≠ j) : (⟨G, i, none⟩ : Addr) ≠ ⟨G, j, none⟩ := fun e => h (congrArg Addr.off e)
theorem put2_other (w : World) (G k : Nat) (r : Hdr) (j : Nat) (h0 : k * 2 ≠ j) (h1 : k * 2 + 1 ≠ j) : (put2 w G k r).cell? ⟨G, j, none⟩ = w.cell? ⟨G, j, none⟩ := by
  unfold put2
  rw [World.cell?_setCell_other _ _ _ _ (hoff_ne h1), World.cell?_setCell_other _ _ _ _ (hoff_ne h0)]
theorem HRoom.put {w : World} {G m : Nat} (h : HRoom w G m) (k : Nat) (r : Hdr) : HRoom (put2 w G k r) G m := (h.set _ _).set _ _
theorem HeadsAt.put {w : World} {G n : Nat} {l : List Hdr} {k : Nat} {r : Hdr} (h : HeadsAt w G 0 (l.take k)) (hr : l[k]? = some r) (hm : HRoom w G (n * 2)) (hk : k < n) : HeadsAt (put2 w G k r) G 0 (l.take (k + 1)) := by
  intro i q hq
  have hi : i < k + 1 := by
    have := (List.getElem?_eq_some_iff.1 hq).1
    simp at this; omega
  rw [List.getElem?_take_of_lt hi] at hq
  simp only [Nat.zero_add]
  by_cases e : i = k
  · subst e
    rw [hr] at hq
    obtain rfl := Option.some.inj hq
    obtain ⟨⟨u0, g0⟩, _⟩ := hm (i * 2) (by omega)
    obtain ⟨⟨u1, g1⟩, _⟩ := (hm.set ⟨G, i * 2, none⟩ (.string r.name)) (i * 2 + 1) (by omega)
    unfold put2
    refine ⟨?_, World.cell?_setCell_same _ _ _ g1⟩
    rw [World.cell?_setCell_other _ _ _ _ (hoff_ne (by omega))]
    exact World.cell?_setCell_same _ _ _ g0
  · have hq2 : (l.take k)[i]? = some q := by rw [List.getElem?_take_of_lt (by omega)]; exact hq
    obtain ⟨a1, a3⟩ := h i q hq2
    simp only [Nat.zero_add] at a1 a3
    exact ⟨by rw [put2_other _ _ _ _ _ (by omega) (by omega)]; exact a1, by rw [put2_other _ _ _ _ _ (by omega) (by omega)]; exact a3⟩
theorem infoHeader : (Tryd.prog.info? 98).map (fun i => (i.zero, i.size, i.bytes)) = some (some (.agg #[.string ⟨#[]⟩, .string ⟨#[]⟩]), 2, 32) := by kernel_rfl
end Go.Proofs.YtlbagfaiiileoaaDoor
/-
  A row of bytes in memory, and small letters: no function of the program in sight.
-/
namespace Go.Proofs.YtlbagfaiiileoaaDoor
/-- The block B holds the bytes l from its head on, none of them frozen. -/
structure BRow (w : World) (B : Nat) (l : List UInt8) : Prop where
  cell : ∀ j (hj : j < l.length), w.cell? ⟨B, j, none⟩ = some (.int .u8 (l[j].toNat : Int))
  free : ∀ j, j < l.length → w.frozen? ⟨B, j, none⟩ = false
theorem BRow.set {w : World} {B : Nat} {l : List UInt8} (h : BRow w B l) (k : Nat) (x : UInt8) : BRow (w.setCell ⟨B, k, none⟩ (.int .u8 (x.toNat : Int))) B (l.set k x) := by
  constructor
  · intro j hj
    simp only [List.length_set] at hj
    by_cases e : k = j
    · subst e
      rw [World.cell?_setCell_same _ _ _ (h.cell k hj)]
      simp
    · rw [World.cell?_setCell_other _ _ _ _ (by intro h2; exact e (congrArg Addr.off h2)), h.cell j hj, List.getElem_set_ne e]
  · intro j hj
    simp only [List.length_set] at hj
    rw [World.frozen?_setCell]
    exact h.free j hj
/-- What a conversion from a text lays. -/
theorem BRow.made (w : World) (s : ByteArray) (cap : Nat) (C : Array Value) (hC : C = bytesRow s cap) : BRow (w.alloc (.cells C 5 (C.size, C.size + 1))) w.heap.size s.data.toList := by
  subst hC
  have hsz : s.data.size ≤ (bytesRow s cap).size := by simp [bytesRow]
  constructor
  · intro j hj
    have hj' : j < s.data.size := by simpa using hj
    rw [World.cell?_alloc_mark, bytesRow_at s cap j hj']
    simp
  · intro j hj
    have hj' : j < s.data.size := by simpa using hj
    rw [World.frozen?_alloc_mark]
    simp
    omega
theorem BRow.back {P : Program} {w : World} {B : Nat} {l : List UInt8} (h : BRow w B l) (src dst e : TypeId) (n cap : Nat) (hn : n = l.length) (hs : P.underlying src = some (.slice e)) (he : P.underlying e = some (.int .u8)) (hd : P.underlying dst = some .string) :
    (convert src dst (.slice (some ⟨B, 0, none⟩) n cap)).run P w = .ok (.string ⟨l.toArray⟩) w := by
  subst hn
  refine run_convert_bytes_back w src dst e ⟨B, 0, none⟩ cap l hs he hd ?_
  intro j hj
  have := h.cell j hj
  by_cases e : j = 0
  · subst e; simpa [Addr.add] using this
  · simpa [Addr.add, e] using this
def lowU (c : UInt8) : UInt8 := if 65 ≤ (c.toNat : Int) ∧ (c.toNat : Int) ≤ 90 then UInt8.ofNat (c.toNat + 32) else c
theorem lowU_yes (c : UInt8) (h1 : 65 ≤ (c.toNat : Int)) (h2 : (c.toNat : Int) ≤ 90) : ((lowU c).toNat : Int) = (c.toNat : Int) + 32 := by
  unfold lowU
  rw [if_pos ⟨h1, h2⟩]
  simp
  omega
theorem lowU_no (c : UInt8) (h : ¬ (65 ≤ (c.toNat : Int) ∧ (c.toNat : Int) ≤ 90)) : lowU c = c := by
  unfold lowU
  rw [if_neg h]
/-- The bytes behind k rounds. -/
def lowK (l : List UInt8) (k : Nat) : List UInt8 := (l.take k).map lowU ++ l.drop k
theorem lowK_zero (l : List UInt8) : lowK l 0 = l := by simp [lowK]
theorem lowK_all (l : List UInt8) (k : Nat) (h : l.length ≤ k) : lowK l k = l.map lowU := by
  simp [lowK, List.take_of_length_le h, List.drop_of_length_le h]
theorem lowK_length (l : List UInt8) (k : Nat) : (lowK l k).length = l.length := by simp [lowK]; omega
theorem lowK_at? (l : List UInt8) (k : Nat) (h : k < l.length) : (lowK l k)[k]? = some l[k] := by
  unfold lowK
  rw [List.getElem?_append_right (by simp; omega)]
  simp [Nat.min_eq_left (Nat.le_of_lt h)]
theorem lowK_at (l : List UInt8) (k : Nat) (h : k < l.length) (h' : k < (lowK l k).length) : (lowK l k)[k] = l[k] := by
  have := lowK_at? l k h
  rw [List.getElem?_eq_getElem h'] at this
  exact Option.some.inj this
theorem lowK_succ (l : List UInt8) (k : Nat) (h : k < l.length) : lowK l (k + 1) = (lowK l k).set k (lowU l[k]) := by
  have hm : min k l.length = k := Nat.min_eq_left (Nat.le_of_lt h)
  unfold lowK
  rw [List.take_succ_eq_append_getElem h, List.map_append, List.drop_eq_getElem_cons h]
  rw [List.set_append_right _ _ (by simp [hm])]
  simp only [List.length_map, List.length_take, hm, Nat.sub_self, List.set_cons_zero, List.map_cons, List.map_nil, List.append_assoc, List.cons_append, List.nil_append]
theorem lowK_keep (l : List UInt8) (k : Nat) (h : k < l.length) (hn : ¬ (65 ≤ (l[k].toNat : Int) ∧ (l[k].toNat : Int) ≤ 90)) : lowK l (k + 1) = lowK l k := by
  have h2 : k < (lowK l k).length := by rw [lowK_length]; exact h
  rw [lowK_succ l k h, lowU_no _ hn, ← lowK_at l k h h2, List.set_getElem_self]
end Go.Proofs.YtlbagfaiiileoaaDoor
/-
  Rows of texts: the laws' own helpers over them.
-/
namespace Go.Proofs.YtlbagfaiiileoaaDoor
open Go.ChangeShapes Go.WideShapes Go.ChangeAt Go.RowKit Go.Sort
def TAt (w : World) (b off : Nat) (l : List ByteArray) : Prop := ∀ (i : Nat) c, l[i]? = some c → w.cell? ⟨b, off + i, none⟩ = some (.string c)
theorem TAt.keep {w w' : World} {b off : Nat} {l : List ByteArray} (h : TAt w b off l) (hb : Below w.heap.size w w') : TAt w' b off l := by
  intro i c hc
  have := h i c hc
  rw [hb.cell (block_lt_of_cell this)]; exact this
def TIn (w : World) (a : Option Addr) (l : List ByteArray) : Prop := l = [] ∨ ∃ b off, a = some ⟨b, off, none⟩ ∧ TAt w b off l
theorem TIn.keep {w w' : World} {a : Option Addr} {l : List ByteArray} (h : TIn w a l) (hb : Below w.heap.size w w') : TIn w' a l := by
  rcases h with h | ⟨b, off, e, h⟩
  · exact .inl h
  · exact .inr ⟨b, off, e, h.keep hb⟩
structure TMine (W : World) (B : Nat) (l : List ByteArray) : Prop where
  at0 : TAt W B 0 l
  free : ∀ o, o < l.length → W.frozen? ⟨B, o, none⟩ = false
  lt : B < W.heap.size
theorem TMine.keep {W W' : World} {B : Nat} {l : List ByteArray} (h : TMine W B l) (hb : Below W.heap.size W W') : TMine W' B l :=
  ⟨h.at0.keep hb, fun o ho => by rw [hb.frozen (p := ⟨B, o, none⟩) h.lt]; exact h.free o ho, Nat.lt_of_lt_of_le h.lt hb.size⟩
theorem TMine.in {W : World} {B : Nat} {l : List ByteArray} (h : TMine W B l) : TIn W (some ⟨B, 0, none⟩) l := .inr ⟨B, 0, rfl, h.at0⟩
/-- How much room is left behind the texts; -1: none. -/
def szTs (left : Int) : List ByteArray → Int
  | [] => left
  | r :: l => if left - (r.size : Int) < 0 then -1 else szTs (left - (r.size : Int)) l
def szTL (left : Int) (l : List ByteArray) : Int := if left - (l.length : Int) < 0 then -1 else szTs (left - (l.length : Int)) l
theorem szTs_le (l : List ByteArray) : ∀ left, szTs left l ≤ left ∨ szTs left l = -1 := by
  induction l with
  | nil => intro left; exact .inl (Int.le_refl _)
  | cons r l ih =>
    intro left
    rw [szTs]
    split
    · exact .inr rfl
    · rcases ih (left - (r.size : Int)) with h | h
      · left; omega
      · exact .inr h
theorem szTL_room {left : Int} {l : List ByteArray} (hl : left ≤ 1048576) (hz : ¬ szTL left l < 0) : l.length ≤ 1048576 ∧ ∀ x ∈ l, x.size ≤ 1048576 := by
  unfold szTL at hz
  by_cases c : left - (l.length : Int) < 0
  · rw [if_pos c] at hz; omega
  · rw [if_neg c] at hz
    refine ⟨by omega, ?_⟩
    have : ∀ (l : List ByteArray) (left : Int), left ≤ 1048576 → ¬ szTs left l < 0 → ∀ x ∈ l, x.size ≤ 1048576 := fun l => by
      induction l with
      | nil => intro _ _ _ x hx; cases hx
      | cons r l ih =>
        intro left h1 h2 x hx
        rw [szTs] at h2
        by_cases c : left - (r.size : Int) < 0
        · rw [if_pos c] at h2; omega
        · rw [if_neg c] at h2
          rcases List.mem_cons.1 hx with rfl | hx
          · omega
          · exact ih _ (by omega) h2 x hx
    exact this l _ (by omega) hz
set_option maxHeartbeats 2000000 in
theorem szStringS_any (w : World) (a : Option Addr) (cap : Nat) (l : List ByteArray) (hl : l.length ≤ maxLen) (hi : TIn w a l) (hz : ∀ x ∈ l, x.size ≤ maxLen) (left : Int) (h0 : 0 ≤ left) (h1 : left ≤ 1048576) :
    Calls Tryd.prog 9 #[.slice a l.length cap, .int .i64 left] w fun e w' => e = .returned (.int .i64 (szTL left l)) ∧ Below w.heap.size w w' := by
  unfold maxLen at hl
  have HI : Hid (TIn w a l) := hi
  have HZ : Hid (∀ x ∈ l, x.size ≤ maxLen) := hz
  clear hi hz
  generalize hn : l.length = n at *
  have HN : Hid (l.length = n) := hn
  by_cases c0 : left - (n : Int) < 0
  · have HE : Hid (szTL left l = -1) := by show _ = _; unfold szTL; rw [hn, if_pos c0]
    clear hn
    go_enter Tryd.func9, Tryd.ntmps9
    go_wp2
    go_ret
    exact ⟨ret_int HE.out.symm, Below.refl _ _⟩
  have HE : Hid (szTL left l = szTs (left - (n : Int)) l) := by show _ = _; unfold szTL; rw [hn, if_neg c0]
  have c0' : 0 ≤ left - (n : Int) := by omega
  clear hn
  go_enter Tryd.func9, Tryd.ntmps9
  go_wp2_with fail
  go_loopw [1, 5] (fun x i wr => ∃ (k : Nat) (c : Int), k ≤ n ∧ i = .int .i64 k ∧ x = .int .i64 c ∧ 0 ≤ c ∧ c ≤ 1048576 ∧ szTL left l = szTs c (l.drop k) ∧ Below w.heap.size w wr) (fun _ i _ => n - (intOf i).toNat)
  case atStart => exact ⟨0, left - (n : Int), Nat.zero_le _, rfl, rfl, c0', by omega, HE.out, Below.refl _ _⟩
  case round =>
    obtain ⟨k, c, hk, rfl, rfl, c2, c3, hs, hb⟩ := hrel
    have HS : Hid (szTL left l = szTs c (l.drop k)) := hs
    clear hs HE
    by_cases hlt : k < n
    · obtain ⟨r, hr⟩ : ∃ r, l[k]? = some r := ⟨l[k]'(by have := HN.out; omega), List.getElem?_eq_getElem _⟩
      rcases HI.out with h | ⟨b, off, rfl, hat⟩
      · subst h; simp at hr
      have p1 := (hat.keep hb) k r hr
      have z1 := HZ.out r (List.mem_of_getElem? hr)
      have HS2 : Hid (szTL left l = if c - (r.size : Int) < 0 then -1 else szTs (c - (r.size : Int)) (l.drop (k + 1))) := by
        show _ = _
        obtain ⟨hk2, hr2⟩ := List.getElem?_eq_some_iff.1 hr
        rw [HS.out, List.drop_eq_getElem_cons hk2, hr2, szTs]
      have g : (k : Int) < n := by omega
      unfold maxLen at z1
      clear HS hr hat HI HZ
      by_cases hd : c - (r.size : Int) < 0
      · have HF : Hid (szTL left l = -1) := by show _ = _; rw [HS2.out, if_pos hd]
        clear HS2
        go_wp2_with fail
        go_ret
        exact ⟨ret_int HF.out.symm, hb⟩
      · have HF : Hid (szTL left l = szTs (c - (r.size : Int)) (l.drop (k + 1))) := by show _ = _; rw [HS2.out, if_neg hd]
        clear HS2
        go_wp2_with fail
        go_roundw
        case rel => exact ⟨k + 1, c - (r.size : Int), by omega, by go_num, rfl, by omega, by omega, HF.out, hb⟩
        case measure => simp [intOf]; omega
    · have HF : Hid (szTL left l = c) := by
        show _ = _
        rw [HS.out, List.drop_of_length_le (by have := HN.out; omega), szTs]
      clear HS
      go_wp2_with fail
      go_ret
      exact ⟨ret_int HF.out.symm, hb⟩
theorem infoTextR : (Tryd.prog.info? 9).map (fun i => (i.zero, i.size, i.bytes)) = some (some (.string ⟨#[]⟩), 1, 16) := by kernel_rfl
theorem TAt.put {w : World} {G : Nat} {l : List ByteArray} {k n : Nat} {c : ByteArray} (h : TAt w G 0 (l.take k)) (hr : l[k]? = some c) (hm : HRoom w G n) (hk : k < n) : TAt (w.setCell ⟨G, k, none⟩ (.string c)) G 0 (l.take (k + 1)) := by
  intro i q hq
  have hi : i < k + 1 := by
    have := (List.getElem?_eq_some_iff.1 hq).1
    simp at this; omega
  rw [List.getElem?_take_of_lt hi] at hq
  simp only [Nat.zero_add]
  by_cases e : i = k
  · subst e
    rw [hr] at hq
    obtain rfl := Option.some.inj hq
    obtain ⟨⟨u0, g0⟩, _⟩ := hm i (by omega)
    exact World.cell?_setCell_same _ _ _ g0
  · have hq2 : (l.take k)[i]? = some q := by rw [List.getElem?_take_of_lt (by omega)]; exact hq
    have a1 := h i q hq2
    simp only [Nat.zero_add] at a1
    rw [World.cell?_setCell_other _ _ _ _ (hoff_ne (by omega))]; exact a1
set_option maxHeartbeats 2000000 in
theorem toStringS_any (w : World) (a : Option Addr) (cap : Nat) (l : List ByteArray) (hl : l.length ≤ 1048576) (hi : TIn w a l) :
    Calls Tryd.prog 16 #[.slice a l.length cap] w fun e w' => e = .returned (.slice (some ⟨w.heap.size, 0, none⟩) l.length l.length) ∧ TMine w' w.heap.size l ∧ Below w.heap.size w w' := by
  have HI : Hid (TIn w a l) := hi
  obtain ⟨i0, hi0, hz0, hz1, hz2⟩ := info_parts infoTextR
  clear hi
  generalize hn : l.length = n at *
  have HN : Hid (l.length = n) := hn
  clear hn
  go_enter Tryd.func16, Tryd.ntmps16
  go_wp2_with (at_make; refine wpList_make_full w rfl _ _ 22 rfl w.heap.size 9 i0 _ 1 Tryd.underlying22 hi0 hz0 hz1 _ _ _ _ n rfl rfl rfl rfl (by rw [hz2]; omega) (by unfold maxLen; omega) (Nat.le_refl _) ?_; intro w1 hown hgrow)
  have HR1 : Hid (HRoom w1 w.heap.size n ∧ (w.heap.size < w1.heap.size ∧ ∀ o, w1.frozen? ⟨w.heap.size, o, none⟩ = false) ∧ Below w.heap.size w w1) := by
    refine ⟨fun j hj => ⟨?_, hown.frozenAt j⟩, ⟨?lt, fun o => hown.frozenAt o⟩, (Below.refl _ _).grown hgrow (Nat.le_refl _) (fun q hq => by cases hq)⟩
    case lt =>
      obtain ⟨_, h | ⟨g, c, cur, e, _, hh, _⟩⟩ := hown
      · cases h.1
      · simp only [Value.slice.injEq, Option.some.injEq] at e
        have e1 := congrArg Addr.block e.1
        simp only at e1
        rw [e1]
        exact (Array.getElem?_eq_some_iff.1 hh).1
    have h1 := hown.cellAt j (by omega)
    have h2 : j < (madeCells (Value.string ⟨#[]⟩).cells (n * 1)).toList.length := by have := hown.1; omega
    exact ⟨_, h1.trans (List.getElem?_eq_getElem h2)⟩
  clear hown hgrow
  go_loopw [4] (fun i wr => ∃ k : Nat, k ≤ n ∧ i = .int .i64 k ∧ TAt wr w.heap.size 0 (l.take k) ∧ HRoom wr w.heap.size n ∧ (w.heap.size < wr.heap.size ∧ ∀ o, wr.frozen? ⟨w.heap.size, o, none⟩ = false) ∧ Below w.heap.size w wr) (fun i _ => n - (intOf i).toNat)
  case atStart => exact ⟨0, Nat.zero_le _, rfl, fun i r hr => by simp at hr, HR1.out.1, HR1.out.2.1, HR1.out.2.2⟩
  case round =>
    obtain ⟨k, hk, rfl, hat, hroom, hfr, hb⟩ := hrel
    have HFR : Hid (w.heap.size < wr.heap.size ∧ ∀ o, wr.frozen? ⟨w.heap.size, o, none⟩ = false) := hfr
    clear hfr HR1
    by_cases hlt : k < n
    · obtain ⟨c, hr⟩ : ∃ r, l[k]? = some r := ⟨l[k]'(by have := HN.out; omega), List.getElem?_eq_getElem _⟩
      rcases HI.out with h | ⟨b, off, rfl, hsrc⟩
      · subst h; simp at hr
      have p1 := hsrc k c hr
      have hblt : b < w.heap.size := block_lt_of_cell p1
      have p2 : wr.cell? ⟨b, off + k, none⟩ = some (.string c) := by rw [hb.cell (p := ⟨b, off + k, none⟩) hblt]; exact p1
      obtain ⟨⟨u0, g0⟩, f0⟩ := hroom k (by omega)
      have HP : Hid (TAt (wr.setCell ⟨w.heap.size, k, none⟩ (.string c)) w.heap.size 0 (l.take (k + 1)) ∧ HRoom (wr.setCell ⟨w.heap.size, k, none⟩ (.string c)) w.heap.size n) := ⟨hat.put hr hroom hlt, hroom.set _ _⟩
      have g : (k : Int) < n := by omega
      have HB : Hid (Below w.heap.size w wr) := hb
      clear hat hroom hr hsrc p1 HI hb
      go_wp2_with fail
      go_roundw
      case rel => exact ⟨k + 1, by omega, by go_num, HP.out.1, HP.out.2, ⟨by simpa using HFR.out.1, fun o => by rw [World.frozen?_setCell]; exact HFR.out.2 o⟩, HB.out.setCell (Nat.le_refl _) _⟩
      case measure => simp [intOf]; omega
    · have HF : Hid (TMine wr w.heap.size l) := by
        have e : l.take k = l := List.take_of_length_le (by have := HN.out; omega)
        rw [e] at hat
        exact ⟨hat, fun o _ => HFR.out.2 o, HFR.out.1⟩
      clear hat hroom
      go_wp2_with fail
      go_ret
      exact ⟨rfl, HF.out, hb⟩
set_option maxHeartbeats 2000000 in
theorem eqStringS_same (w : World) (a1 a2 : Option Addr) (c1 c2 : Nat) (l : List ByteArray) (hl : l.length ≤ 1048576) (h1 : TIn w a1 l) (h2 : TIn w a2 l) :
    Calls Tryd.prog 24 #[.slice a1 l.length c1, .slice a2 l.length c2] w fun e w' => e = .returned (.bool true) ∧ Below w.heap.size w w' := by
  have H1 : Hid (TIn w a1 l) := h1
  have H2 : Hid (TIn w a2 l) := h2
  clear h1 h2
  generalize hn : l.length = n at *
  have HN : Hid (l.length = n) := hn
  clear hn
  go_enter Tryd.func24, Tryd.ntmps24
  go_wp2_with fail
  go_loopw [5] (fun i wr => ∃ k : Nat, k ≤ n ∧ i = .int .i64 k ∧ Below w.heap.size w wr) (fun i _ => n - (intOf i).toNat)
  case atStart => exact ⟨0, Nat.zero_le _, rfl, Below.refl _ _⟩
  case round =>
    obtain ⟨k, hk, rfl, hb⟩ := hrel
    by_cases hlt : k < n
    · obtain ⟨r, hr⟩ : ∃ r, l[k]? = some r := ⟨l[k]'(by have := HN.out; omega), List.getElem?_eq_getElem _⟩
      rcases H1.out with h | ⟨b1, o1, rfl, hs1⟩
      · subst h; simp at hr
      rcases H2.out with h | ⟨b2, o2, rfl, hs2⟩
      · subst h; simp at hr
      have p1 := (hs1.keep hb) k r hr
      have p2 := (hs2.keep hb) k r hr
      have x1 := cell_regrown p1
      have x2 := cell_regrown p2
      have g0 : (0 : Int) ≤ k := by omega
      have g : (k : Int) < n := by omega
      clear hr p1 p2 hs1 hs2 H1 H2
      go_wp2_with fail
      refine wp_region_quiet_below (by kernel_rfl) (by kernel_rfl) ?_
      repeat (go_big_quiet_step (first | fail))
      refine wpQuiet_nil ?_
      intro w2 hw2
      have hbb : Below w.heap.size w w2 := by
        obtain ⟨⟨d, os⟩, rfl⟩ := hw2
        exact hb.trans ((below_regrown wr d os).mono hb.size)
      clear x1 x2 hw2 hb
      go_wp2_with fail
      go_roundw
      case rel => exact ⟨k + 1, by omega, by go_num, hbb⟩
      case measure => simp [intOf]; omega
    · go_wp2_with fail
      go_ret
      exact ⟨rfl, hb⟩
end Go.Proofs.YtlbagfaiiileoaaDoor
/-
  Texts of one's own, as facts that hang on a stretch of blocks.
-/
namespace Go.Proofs.YtlbagfaiiileoaaDoor
open Go.ChangeShapes Go.WideShapes Go.ChangeAt Go.RowKit Go.Sort
def TM (B : Nat) (l : List ByteArray) (lo hi : Nat) (X : World) : Prop := TMine X B l ∧ lo ≤ B ∧ B < hi
theorem TM.dep (B : Nat) (l : List ByteArray) (lo hi : Nat) : Dep lo hi (TM B l lo hi) := fun X X' h1 h2 hc k =>
  ⟨⟨fun i r hr => by rw [(hc B _ k.2.1 k.2.2).1]; exact k.1.at0 i r hr, fun o ho => by rw [(hc B o k.2.1 k.2.2).2]; exact k.1.free o ho, Nat.lt_of_lt_of_le k.1.lt h2⟩, k.2⟩
theorem TMine.at {X : World} {B : Nat} {l : List ByteArray} (h : TMine X B l) : At B (B + 1) (TM B l) X := ⟨h.lt, TM.dep _ _ _ _, h, Nat.le_refl _, Nat.lt_succ_self _⟩
theorem TM.in {B lo hi : Nat} {l : List ByteArray} {X : World} (h : TM B l lo hi X) : TIn X (some ⟨B, 0, none⟩) l := h.1.in
end Go.Proofs.YtlbagfaiiileoaaDoor
/-
  PolicyFault, on both sides; policies that lie in memory.
-/
namespace Go.Proofs.YtlbagfaiiileoaaDoor
open Go.ChangeShapes Go.WideShapes Go.ChangeAt Go.RowKit
/-- A policy in memory. -/
structure PolAt (w : World) (b : Nat) (b0 b1 b2 : Bool) (l s e g : Int) : Prop where
  c0 : w.cell? ⟨b, 0, none⟩ = some (.bool b0)
  c1 : w.cell? ⟨b, 1, none⟩ = some (.bool b1)
  c2 : w.cell? ⟨b, 2, none⟩ = some (.bool b2)
  c3 : w.cell? ⟨b, 3, none⟩ = some (.int .i64 l)
  c4 : w.cell? ⟨b, 4, none⟩ = some (.int .i64 s)
  c5 : w.cell? ⟨b, 5, none⟩ = some (.int .i64 e)
  c6 : w.cell? ⟨b, 6, none⟩ = some (.int .i64 g)
  fr : ∀ o, w.frozen? ⟨b, o, none⟩ = false
  lt : b < w.heap.size
theorem PolAt.keep {w w' : World} {b : Nat} {b0 b1 b2 : Bool} {l s e g : Int} (k : PolAt w b b0 b1 b2 l s e g) (hb : Below w.heap.size w w') : PolAt w' b b0 b1 b2 l s e g :=
  ⟨by rw [hb.cell (p := ⟨b, 0, none⟩) k.lt]; exact k.c0, by rw [hb.cell (p := ⟨b, 1, none⟩) k.lt]; exact k.c1, by rw [hb.cell (p := ⟨b, 2, none⟩) k.lt]; exact k.c2, by rw [hb.cell (p := ⟨b, 3, none⟩) k.lt]; exact k.c3, by rw [hb.cell (p := ⟨b, 4, none⟩) k.lt]; exact k.c4, by rw [hb.cell (p := ⟨b, 5, none⟩) k.lt]; exact k.c5, by rw [hb.cell (p := ⟨b, 6, none⟩) k.lt]; exact k.c6,
    fun o => by rw [hb.frozen (p := ⟨b, o, none⟩) k.lt]; exact k.fr o, Nat.lt_of_lt_of_le k.lt hb.size⟩
theorem PolAt.new (w : World) (b0 b1 b2 : Bool) (l s e g : Int) (t : TypeId) : PolAt (w.alloc (.cells #[.bool b0, .bool b1, .bool b2, .int .i64 l, .int .i64 s, .int .i64 e, .int .i64 g] t)) w.heap.size b0 b1 b2 l s e g :=
  ⟨by simp, by simp, by simp, by simp, by simp, by simp, by simp, fun o => by simp, by simp⟩
def timeB (x : Int) : Bool := decide (0 ≤ x) && decide (x ≤ 1000000000000000)
theorem timeB_yes {x : Int} (h0 : 0 ≤ x) (h1 : x ≤ 1000000000000000) : timeB x = true := by simp [timeB, h0, h1]
theorem timeB_of {x : Int} (h : timeB x = true) : 0 ≤ x ∧ x ≤ 1000000000000000 := by simpa [timeB] using h
theorem l1Time_all (x : Int) (w : World) : Calls Tryd.prog 12 #[.int .i64 x] w fun r w' => r = .returned (.bool (timeB x)) ∧ w' = w := by
  by_cases c1 : 0 ≤ x
  · by_cases c2 : x ≤ 1000000000000000
    · rw [timeB_yes c1 c2]
      have d2 : decide (x ≤ 1000000000000000) = true := by simp; omega
      go_enter Tryd.func12, Tryd.ntmps12
      go_wp2
      go_ret
      exact ⟨rfl, rfl⟩
    · have e : timeB x = false := by simp [timeB]; omega
      rw [e]
      have d2 : decide (x ≤ 1000000000000000) = false := by simp; omega
      go_enter Tryd.func12, Tryd.ntmps12
      go_wp2
      go_ret
      exact ⟨rfl, rfl⟩
  · have e : timeB x = false := by simp [timeB]; omega
    rw [e]
    go_enter Tryd.func12, Tryd.ntmps12
    go_wp2
    go_ret
    exact ⟨rfl, rfl⟩
theorem isTime_all (x : Int) (w : World) : Calls Tryd.prog 31 #[.int .i64 x] w fun r w' => r = .returned (.bool (timeB x)) ∧ w' = w := by
  by_cases c1 : 0 ≤ x
  · by_cases c2 : x ≤ 1000000000000000
    · rw [timeB_yes c1 c2]
      have d2 : decide (x ≤ 1000000000000000) = true := by simp; omega
      go_enter Tryd.func31, Tryd.ntmps31
      go_wp2
      go_ret
      exact ⟨rfl, rfl⟩
    · have e : timeB x = false := by simp [timeB]; omega
      rw [e]
      have d2 : decide (x ≤ 1000000000000000) = false := by simp; omega
      go_enter Tryd.func31, Tryd.ntmps31
      go_wp2
      go_ret
      exact ⟨rfl, rfl⟩
  · have e : timeB x = false := by simp [timeB]; omega
    rw [e]
    go_enter Tryd.func31, Tryd.ntmps31
    go_wp2
    go_ret
    exact ⟨rfl, rfl⟩
def polB (l s e g : Int) : Bool := (timeB l || decide (l = -1)) && timeB s && timeB e && timeB g
def polC (l s e g : Int) : Int := if polB l s e g = true then 0 else 3
theorem polC_ok {l s e g : Int} (h : polB l s e g = true) : polC l s e g = 0 := by rw [polC, if_pos h]
theorem polC_bad {l s e g : Int} (h : polB l s e g = false) : polC l s e g = 3 := by rw [polC, if_neg (by rw [h]; decide)]
end Go.Proofs.YtlbagfaiiileoaaDoor
/-
  StoreLife, on both sides.
-/
namespace Go.Proofs.YtlbagfaiiileoaaDoor
open Go.ChangeShapes Go.WideShapes Go.ChangeAt Go.RowKit
/-- Two cells that may be written. -/
structure IR (w : World) (b : Nat) (v0 v1 : Value) : Prop where
  c0 : w.cell? ⟨b, 0, none⟩ = some v0
  c1 : w.cell? ⟨b, 1, none⟩ = some v1
  fr : ∀ o, w.frozen? ⟨b, o, none⟩ = false
  lt : b < w.heap.size
theorem IR.keep {w w' : World} {b : Nat} {v0 v1 : Value} (k : IR w b v0 v1) (hb : Below w.heap.size w w') : IR w' b v0 v1 :=
  ⟨by rw [hb.cell (p := ⟨b, 0, none⟩) k.lt]; exact k.c0, by rw [hb.cell (p := ⟨b, 1, none⟩) k.lt]; exact k.c1, fun o => by rw [hb.frozen (p := ⟨b, o, none⟩) k.lt]; exact k.fr o, Nat.lt_of_lt_of_le k.lt hb.size⟩
theorem IR.new (w : World) (v0 v1 : Value) (t : TypeId) : IR (w.alloc (.cells #[v0, v1] t)) w.heap.size v0 v1 :=
  ⟨by rw [World.cell?_alloc_mark]; rfl, by rw [World.cell?_alloc_mark]; rfl, fun o => by have e := heap_alloc_new w (.cells #[v0, v1] t); unfold World.frozen?; rw [e]; simp, by simp⟩
def statB (st : Int) : Bool := decide (st = 200) || decide (st = 404) || decide (st = 410)
/-- Whether an answer may be kept. -/
def keepB (b0 : Bool) (l st : Int) : Bool := !b0 && statB st && !(decide (st = 200) && decide (l = -1))
def lifeX (l ng : Int) : Int := if l = -1 then ng else l
def rangeB (st ng : Int) : Bool := decide (200 ≤ st) && decide (st ≤ 599) && timeB ng
def lifeC (b0 : Bool) (l s e g st ng : Int) : Int := if polB l s e g = true then (if rangeB st ng = true then (if keepB b0 l st = true then 0 else 4) else 3) else 3
def lifeV (b0 : Bool) (l s e g st ng : Int) : Int := if lifeC b0 l s e g st ng = 0 then lifeX l ng else 0
theorem life_pol {b0 : Bool} {l s e g st ng : Int} (h : polB l s e g = false) : lifeC b0 l s e g st ng = 3 ∧ lifeV b0 l s e g st ng = 0 := by
  have c : lifeC b0 l s e g st ng = 3 := by rw [lifeC, if_neg (by rw [h]; decide)]
  exact ⟨c, by rw [lifeV, c, if_neg (by decide)]⟩
theorem life_range {b0 : Bool} {l s e g st ng : Int} (h : polB l s e g = true) (h2 : rangeB st ng = false) : lifeC b0 l s e g st ng = 3 ∧ lifeV b0 l s e g st ng = 0 := by
  have c : lifeC b0 l s e g st ng = 3 := by rw [lifeC, if_pos h, if_neg (by rw [h2]; decide)]
  exact ⟨c, by rw [lifeV, c, if_neg (by decide)]⟩
theorem life_none {b0 : Bool} {l s e g st ng : Int} (h : polB l s e g = true) (h2 : rangeB st ng = true) (h3 : keepB b0 l st = false) : lifeC b0 l s e g st ng = 4 ∧ lifeV b0 l s e g st ng = 0 := by
  have c : lifeC b0 l s e g st ng = 4 := by rw [lifeC, if_pos h, if_pos h2, if_neg (by rw [h3]; decide)]
  exact ⟨c, by rw [lifeV, c, if_neg (by decide)]⟩
theorem life_ok {b0 : Bool} {l s e g st ng : Int} (h : polB l s e g = true) (h2 : rangeB st ng = true) (h3 : keepB b0 l st = true) : lifeC b0 l s e g st ng = 0 ∧ lifeV b0 l s e g st ng = lifeX l ng := by
  have c : lifeC b0 l s e g st ng = 0 := by rw [lifeC, if_pos h, if_pos h2, if_pos h3]
  exact ⟨c, by rw [lifeV, if_pos c]⟩
theorem lifeX_told {l ng : Int} (h : ¬ l = -1) : lifeX l ng = l := by rw [lifeX, if_neg h]
theorem lifeX_not {ng : Int} : lifeX (-1) ng = ng := by rw [lifeX, if_pos rfl]
theorem mayKeep_any (st : Int) (w : World) : Calls Tryd.prog 54 #[.int .i64 st] w fun r w' => r = .returned (.bool (statB st)) ∧ w' = w := by
  by_cases c1 : st = 200
  · subst c1
    have e : statB 200 = true := by decide
    rw [e]
    go_enter Tryd.func54, Tryd.ntmps54
    go_wp2
    go_ret
    exact ⟨rfl, rfl⟩
  by_cases c2 : st = 404
  · subst c2
    have e : statB 404 = true := by decide
    rw [e]
    go_enter Tryd.func54, Tryd.ntmps54
    go_wp2
    go_ret
    exact ⟨rfl, rfl⟩
  by_cases c3 : st = 410
  · subst c3
    have e : statB 410 = true := by decide
    rw [e]
    go_enter Tryd.func54, Tryd.ntmps54
    go_wp2
    go_ret
    exact ⟨rfl, rfl⟩
  have e : statB st = false := by simp [statB, c1, c2, c3]
  rw [e]
  have d1 : (st == 200) = false := by simpa using c1
  have d2 : (st == 404) = false := by simpa using c2
  have d3 : (st == 410) = false := by simpa using c3
  go_enter Tryd.func54, Tryd.ntmps54
  go_wp2
  go_ret
  exact ⟨rfl, rfl⟩
theorem l1In_all (x lo hi : Int) (w : World) : Calls Tryd.prog 11 #[.int .i64 x, .int .i64 lo, .int .i64 hi] w fun r w' => r = .returned (.bool (decide (lo ≤ x) && decide (x ≤ hi))) ∧ w' = w := by
  by_cases c1 : lo ≤ x
  · by_cases c2 : x ≤ hi
    · have e : (decide (lo ≤ x) && decide (x ≤ hi)) = true := by simp [c1, c2]
      rw [e]
      have d2 : decide (x ≤ hi) = true := by simp [c2]
      go_enter Tryd.func11, Tryd.ntmps11
      go_wp2
      go_ret
      exact ⟨rfl, rfl⟩
    · have e : (decide (lo ≤ x) && decide (x ≤ hi)) = false := by simp [c2]
      rw [e]
      have d2 : decide (x ≤ hi) = false := by simp [c2]
      go_enter Tryd.func11, Tryd.ntmps11
      go_wp2
      go_ret
      exact ⟨rfl, rfl⟩
  · have e : (decide (lo ≤ x) && decide (x ≤ hi)) = false := by simp [c1]
    rw [e]
    go_enter Tryd.func11, Tryd.ntmps11
    go_wp2
    go_ret
    exact ⟨rfl, rfl⟩
def lifeT (b0 : Bool) (l st ng : Int) : Value := .tuple #[.int .i64 (if keepB b0 l st = true then lifeX l ng else 0), .bool (keepB b0 l st)]
end Go.Proofs.YtlbagfaiiileoaaDoor
/-
  What AddTime's model and AddTime itself answer, for any two numbers: one contract a function and a case.
-/
namespace Go.Proofs.YtlbagfaiiileoaaDoor
open Go.ChangeShapes Go.WideShapes Go.ChangeAt Go.RowKit
end Go.Proofs.YtlbagfaiiileoaaDoor
/-
  What is kept with an answer: faults, ages and phases, on both sides.
-/
namespace Go.Proofs.YtlbagfaiiileoaaDoor
open Go.ChangeShapes Go.WideShapes Go.ChangeAt Go.RowKit
/-- What is kept with an answer, in memory. -/
structure MetaAt (w : World) (b : Nat) (t g l s e : Int) (b1 b2 : Bool) : Prop where
  c0 : w.cell? ⟨b, 0, none⟩ = some (.int .i64 t)
  c1 : w.cell? ⟨b, 1, none⟩ = some (.int .i64 g)
  c2 : w.cell? ⟨b, 2, none⟩ = some (.int .i64 l)
  c3 : w.cell? ⟨b, 3, none⟩ = some (.int .i64 s)
  c4 : w.cell? ⟨b, 4, none⟩ = some (.int .i64 e)
  c5 : w.cell? ⟨b, 5, none⟩ = some (.bool b1)
  c6 : w.cell? ⟨b, 6, none⟩ = some (.bool b2)
  fr : ∀ o, w.frozen? ⟨b, o, none⟩ = false
  lt : b < w.heap.size
theorem MetaAt.keep {w w' : World} {b : Nat} {t g l s e : Int} {b1 b2 : Bool} (k : MetaAt w b t g l s e b1 b2) (hb : Below w.heap.size w w') : MetaAt w' b t g l s e b1 b2 :=
  ⟨by rw [hb.cell (p := ⟨b, 0, none⟩) k.lt]; exact k.c0, by rw [hb.cell (p := ⟨b, 1, none⟩) k.lt]; exact k.c1, by rw [hb.cell (p := ⟨b, 2, none⟩) k.lt]; exact k.c2, by rw [hb.cell (p := ⟨b, 3, none⟩) k.lt]; exact k.c3, by rw [hb.cell (p := ⟨b, 4, none⟩) k.lt]; exact k.c4, by rw [hb.cell (p := ⟨b, 5, none⟩) k.lt]; exact k.c5, by rw [hb.cell (p := ⟨b, 6, none⟩) k.lt]; exact k.c6,
    fun o => by rw [hb.frozen (p := ⟨b, o, none⟩) k.lt]; exact k.fr o, Nat.lt_of_lt_of_le k.lt hb.size⟩
theorem MetaAt.new (w : World) (t g l s e : Int) (b1 b2 : Bool) (x : TypeId) : MetaAt (w.alloc (.cells #[.int .i64 t, .int .i64 g, .int .i64 l, .int .i64 s, .int .i64 e, .bool b1, .bool b2] x)) w.heap.size t g l s e b1 b2 :=
  ⟨by simp, by simp, by simp, by simp, by simp, by simp, by simp, fun o => by simp, by simp⟩
def addT (a b : Int) : Int := if 1000000000000000 < a + b then 1000000000000000 else a + b
theorem addT_time {a b : Int} (ha : 0 ≤ a) (hb : 0 ≤ b) : 0 ≤ addT a b ∧ addT a b ≤ 1000000000000000 := by unfold addT; split <;> omega
def metaB (t g l s e : Int) : Bool := timeB t && timeB g && timeB l && timeB s && timeB e
def metaC (t g l s e : Int) : Int := if metaB t g l s e = true then 0 else 3
theorem metaC_ok {t g l s e : Int} (h : metaB t g l s e = true) : metaC t g l s e = 0 := by rw [metaC, if_pos h]
theorem metaC_bad {t g l s e : Int} (h : metaB t g l s e = false) : metaC t g l s e = 3 := by rw [metaC, if_neg (by rw [h]; decide)]
theorem metaB_of {t g l s e : Int} (h : metaB t g l s e = true) : (0 ≤ t ∧ t ≤ 1000000000000000) ∧ (0 ≤ g ∧ g ≤ 1000000000000000) ∧ (0 ≤ l ∧ l ≤ 1000000000000000) ∧ (0 ≤ s ∧ s ≤ 1000000000000000) ∧ (0 ≤ e ∧ e ≤ 1000000000000000) := by
  simp only [metaB, Bool.and_eq_true] at h
  exact ⟨timeB_of h.1.1.1.1, timeB_of h.1.1.1.2, timeB_of h.1.1.2, timeB_of h.1.2, timeB_of h.2⟩
def askB (t g l s e n : Int) : Bool := metaB t g l s e && timeB n && decide (t ≤ n)
def askM (t g l s e n : Int) : Int := if askB t g l s e n = true then 0 else 3
theorem askM_ok {t g l s e n : Int} (h : askB t g l s e n = true) : askM t g l s e n = 0 := by rw [askM, if_pos h]
theorem askM_bad {t g l s e n : Int} (h : askB t g l s e n = false) : askM t g l s e n = 3 := by rw [askM, if_neg (by rw [h]; decide)]
theorem askB_of {t g l s e n : Int} (h : askB t g l s e n = true) : metaB t g l s e = true ∧ (0 ≤ n ∧ n ≤ 1000000000000000) ∧ t ≤ n := by
  simp only [askB, Bool.and_eq_true, decide_eq_true_eq] at h
  exact ⟨h.1.1, timeB_of h.1.2, h.2⟩
def ageM (t g n : Int) : Int := addT g (n - t)
def ageA (t g l s e n : Int) : Int := if askB t g l s e n = true then ageM t g n else 0
theorem ageA_ok {t g l s e n : Int} (h : askB t g l s e n = true) : ageA t g l s e n = ageM t g n := by rw [ageA, if_pos h]
theorem ageA_bad {t g l s e n : Int} (h : askB t g l s e n = false) : ageA t g l s e n = 0 := by rw [ageA, if_neg (by rw [h]; decide)]
def lifeM (l : Int) (b1 b2 : Bool) : Int := if (b1 || b2) = true then 0 else l
/-- The phase of an answer of this age, with this life. -/
def phaseV (a li s e : Int) (b2 : Bool) : Int := if a < li then 1 else if (!b2 && decide (a < addT li s)) = true then 2 else if a < addT li e then 3 else 0
def phaseM (t g l s e : Int) (b1 b2 : Bool) (n : Int) : Int := phaseV (ageM t g n) (lifeM l b1 b2) s e b2
def phaseA (t g l s e : Int) (b1 b2 : Bool) (n : Int) : Int := if askB t g l s e n = true then phaseM t g l s e b1 b2 n else 0
theorem phaseA_ok {t g l s e n : Int} {b1 b2 : Bool} (h : askB t g l s e n = true) : phaseA t g l s e b1 b2 n = phaseM t g l s e b1 b2 n := by rw [phaseA, if_pos h]
theorem phaseA_bad {t g l s e n : Int} {b1 b2 : Bool} (h : askB t g l s e n = false) : phaseA t g l s e b1 b2 n = 0 := by rw [phaseA, if_neg (by rw [h]; decide)]
theorem phase1 {a li s e : Int} {b2 : Bool} (h : a < li) : phaseV a li s e b2 = 1 := by rw [phaseV, if_pos h]
theorem phase2 {a li s e : Int} {b2 : Bool} (h : ¬ a < li) (h2 : (!b2 && decide (a < addT li s)) = true) : phaseV a li s e b2 = 2 := by rw [phaseV, if_neg h, if_pos h2]
theorem phase3 {a li s e : Int} {b2 : Bool} (h : ¬ a < li) (h2 : ¬ (!b2 && decide (a < addT li s)) = true) (h3 : a < addT li e) : phaseV a li s e b2 = 3 := by rw [phaseV, if_neg h, if_neg h2, if_pos h3]
theorem phase0 {a li s e : Int} {b2 : Bool} (h : ¬ a < li) (h2 : ¬ (!b2 && decide (a < addT li s)) = true) (h3 : ¬ a < addT li e) : phaseV a li s e b2 = 0 := by rw [phaseV, if_neg h, if_neg h2, if_neg h3]
theorem lifeM_time {l : Int} {b1 b2 : Bool} (h : 0 ≤ l ∧ l ≤ 1000000000000000) : 0 ≤ lifeM l b1 b2 ∧ lifeM l b1 b2 ≤ 1000000000000000 := by unfold lifeM; split <;> omega
theorem ageM_time {t g n : Int} (h : 0 ≤ g) (h2 : t ≤ n) : 0 ≤ ageM t g n ∧ ageM t g n ≤ 1000000000000000 := addT_time h (by omega)
set_option maxHeartbeats 4000000 in
theorem specMeta_any (t g l s e : Int) (b1 b2 : Bool) (w : World) :
    Calls Tryd.prog 47 #[.agg #[.int .i64 t, .int .i64 g, .int .i64 l, .int .i64 s, .int .i64 e, .bool b1, .bool b2]] w fun r w' => r = .returned (.int .i64 (metaC t g l s e)) ∧ Below w.heap.size w w' := by
  have HT : Hid (∀ x w, Calls Tryd.prog 12 #[.int .i64 x] w fun r w' => r = .returned (.bool (timeB x)) ∧ w' = w) := l1Time_all
  have HB : Hid (Below w.heap.size w (w.alloc (.cells #[.int .i64 t, .int .i64 g, .int .i64 l, .int .i64 s, .int .i64 e, .bool b1, .bool b2] 67))) := (Below.refl _ _).alloc (Nat.le_refl _) _
  cases ht : timeB t
  · rw [metaC_bad (by simp [metaB, ht])]
    go_enter Tryd.func47, Tryd.ntmps47
    go_wp2_with fail
    refine (HT.out t _).mono ?_
    rintro r w1 ⟨rfl, rfl⟩
    rw [ht]
    go_wp2_with fail
    go_ret
    exact ⟨rfl, HB.out⟩
  cases hg : timeB g
  · rw [metaC_bad (by simp [metaB, hg])]
    go_enter Tryd.func47, Tryd.ntmps47
    go_wp2_with fail
    refine (HT.out t _).mono ?_
    rintro r w1 ⟨rfl, rfl⟩
    rw [ht]
    go_wp2_with fail
    refine (HT.out g _).mono ?_
    rintro r w1 ⟨rfl, rfl⟩
    rw [hg]
    go_wp2_with fail
    go_ret
    exact ⟨rfl, HB.out⟩
  cases hl : timeB l
  · rw [metaC_bad (by simp [metaB, hl])]
    go_enter Tryd.func47, Tryd.ntmps47
    go_wp2_with fail
    refine (HT.out t _).mono ?_
    rintro r w1 ⟨rfl, rfl⟩
    rw [ht]
    go_wp2_with fail
    refine (HT.out g _).mono ?_
    rintro r w1 ⟨rfl, rfl⟩
    rw [hg]
    go_wp2_with fail
    refine (HT.out l _).mono ?_
    rintro r w1 ⟨rfl, rfl⟩
    rw [hl]
    go_wp2_with fail
    go_ret
    exact ⟨rfl, HB.out⟩
  cases hs : timeB s
  · rw [metaC_bad (by simp [metaB, hs])]
    go_enter Tryd.func47, Tryd.ntmps47
    go_wp2_with fail
    refine (HT.out t _).mono ?_
    rintro r w1 ⟨rfl, rfl⟩
    rw [ht]
    go_wp2_with fail
    refine (HT.out g _).mono ?_
    rintro r w1 ⟨rfl, rfl⟩
    rw [hg]
    go_wp2_with fail
    refine (HT.out l _).mono ?_
    rintro r w1 ⟨rfl, rfl⟩
    rw [hl]
    go_wp2_with fail
    refine (HT.out s _).mono ?_
    rintro r w1 ⟨rfl, rfl⟩
    rw [hs]
    go_wp2_with fail
    go_ret
    exact ⟨rfl, HB.out⟩
  cases he : timeB e
  · rw [metaC_bad (by simp [metaB, he])]
    go_enter Tryd.func47, Tryd.ntmps47
    go_wp2_with fail
    refine (HT.out t _).mono ?_
    rintro r w1 ⟨rfl, rfl⟩
    rw [ht]
    go_wp2_with fail
    refine (HT.out g _).mono ?_
    rintro r w1 ⟨rfl, rfl⟩
    rw [hg]
    go_wp2_with fail
    refine (HT.out l _).mono ?_
    rintro r w1 ⟨rfl, rfl⟩
    rw [hl]
    go_wp2_with fail
    refine (HT.out s _).mono ?_
    rintro r w1 ⟨rfl, rfl⟩
    rw [hs]
    go_wp2_with fail
    refine (HT.out e _).mono ?_
    rintro r w1 ⟨rfl, rfl⟩
    rw [he]
    go_wp2_with fail
    go_ret
    exact ⟨rfl, HB.out⟩
  rw [metaC_ok (by simp [metaB, ht, hg, hl, hs, he])]
  go_enter Tryd.func47, Tryd.ntmps47
  go_wp2_with fail
  refine (HT.out t _).mono ?_
  rintro r w1 ⟨rfl, rfl⟩
  rw [ht]
  go_wp2_with fail
  refine (HT.out g _).mono ?_
  rintro r w1 ⟨rfl, rfl⟩
  rw [hg]
  go_wp2_with fail
  refine (HT.out l _).mono ?_
  rintro r w1 ⟨rfl, rfl⟩
  rw [hl]
  go_wp2_with fail
  refine (HT.out s _).mono ?_
  rintro r w1 ⟨rfl, rfl⟩
  rw [hs]
  go_wp2_with fail
  refine (HT.out e _).mono ?_
  rintro r w1 ⟨rfl, rfl⟩
  rw [he]
  go_wp2_with fail
  go_ret
  exact ⟨rfl, HB.out⟩
theorem meta_ix0 (t g l s e : Int) (w : World) : (Instr.index 102 (.agg #[.int .i64 t, .int .i64 g, .int .i64 l, .int .i64 s, .int .i64 e]) (.int .i64 0)).run Tryd.prog w = .ok (.int .i64 t) w := by kernel_rfl
theorem meta_ix1 (t g l s e : Int) (w : World) : (Instr.index 102 (.agg #[.int .i64 t, .int .i64 g, .int .i64 l, .int .i64 s, .int .i64 e]) (.int .i64 1)).run Tryd.prog w = .ok (.int .i64 g) w := by kernel_rfl
theorem meta_ix2 (t g l s e : Int) (w : World) : (Instr.index 102 (.agg #[.int .i64 t, .int .i64 g, .int .i64 l, .int .i64 s, .int .i64 e]) (.int .i64 2)).run Tryd.prog w = .ok (.int .i64 l) w := by kernel_rfl
theorem meta_ix3 (t g l s e : Int) (w : World) : (Instr.index 102 (.agg #[.int .i64 t, .int .i64 g, .int .i64 l, .int .i64 s, .int .i64 e]) (.int .i64 3)).run Tryd.prog w = .ok (.int .i64 s) w := by kernel_rfl
theorem meta_ix4 (t g l s e : Int) (w : World) : (Instr.index 102 (.agg #[.int .i64 t, .int .i64 g, .int .i64 l, .int .i64 s, .int .i64 e]) (.int .i64 4)).run Tryd.prog w = .ok (.int .i64 e) w := by kernel_rfl
set_option maxHeartbeats 8000000 in
theorem implMeta_any (t g l s e : Int) (b1 b2 : Bool) (w : World) :
    Calls Tryd.prog 56 #[.agg #[.int .i64 t, .int .i64 g, .int .i64 l, .int .i64 s, .int .i64 e, .bool b1, .bool b2]] w fun r w' => r = .returned (.int .i64 (metaC t g l s e)) ∧ Below w.heap.size w w' := by
  have HT : Hid (∀ x w, Calls Tryd.prog 31 #[.int .i64 x] w fun r w' => r = .returned (.bool (timeB x)) ∧ w' = w) := isTime_all
  have HB : Hid (Below w.heap.size w (w.alloc (.cells #[.int .i64 t, .int .i64 g, .int .i64 l, .int .i64 s, .int .i64 e, .bool b1, .bool b2] 67))) := (Below.refl _ _).alloc (Nat.le_refl _) _
  obtain ⟨v, hv⟩ : ∃ X, Hid (X = w.alloc (.cells #[.int .i64 t, .int .i64 g, .int .i64 l, .int .i64 s, .int .i64 e, .bool b1, .bool b2] 67)) := ⟨_, rfl⟩
  go_enter Tryd.func56, Tryd.ntmps56
  go_wp2_with fail
  rw [← hv.out]
  rw [← hv.out] at HB
  clear hv
  go_loopw [16] (fun i wr => ∃ k : Nat, k ≤ 5 ∧ i = .int .i64 k ∧ (∀ j, j < k → timeB ([t, g, l, s, e].getD j 0) = true) ∧ wr = v) (fun i _ => 5 - (intOf i).toNat)
  case atStart => exact ⟨0, Nat.zero_le _, rfl, fun j hj => absurd hj (by omega), rfl⟩
  case round =>
    obtain ⟨k, hk, rfl, hw, rfl⟩ := hrel
    have HW : Hid (∀ j, j < k → timeB ([t, g, l, s, e].getD j 0) = true) := hw
    clear hw
    by_cases k0 : k = 0
    · subst k0
      have hix := meta_ix0 t g l s e
      cases ht : timeB t
      · have HE : Hid (3 = metaC t g l s e) := (metaC_bad (by simp [metaB, ht])).symm
        go_wp2_with fail
        refine (HT.out t _).mono ?_
        rintro r w1 ⟨rfl, rfl⟩
        rw [ht]
        go_wp2_with fail
        go_ret
        exact ⟨ret_int HE.out, HB.out⟩
      · have HV : Hid (timeB t = true) := ht
        go_wp2_with fail
        refine (HT.out t _).mono ?_
        rintro r w1 ⟨rfl, rfl⟩
        rw [ht]
        clear ht
        go_wp2_with fail
        go_roundw
        case rel =>
          refine ⟨1, by omega, by go_num, fun j hj => ?_, by trivial⟩
          by_cases q : j = 0
          · subst q; exact HV.out
          · exact HW.out j (by omega)
        case measure => simp [intOf]
    by_cases k1 : k = 1
    · subst k1
      have hix := meta_ix1 t g l s e
      cases hg : timeB g
      · have HE : Hid (3 = metaC t g l s e) := (metaC_bad (by simp [metaB, hg])).symm
        go_wp2_with fail
        refine (HT.out g _).mono ?_
        rintro r w1 ⟨rfl, rfl⟩
        rw [hg]
        go_wp2_with fail
        go_ret
        exact ⟨ret_int HE.out, HB.out⟩
      · have HV : Hid (timeB g = true) := hg
        go_wp2_with fail
        refine (HT.out g _).mono ?_
        rintro r w1 ⟨rfl, rfl⟩
        rw [hg]
        clear hg
        go_wp2_with fail
        go_roundw
        case rel =>
          refine ⟨2, by omega, by go_num, fun j hj => ?_, by trivial⟩
          by_cases q : j = 1
          · subst q; exact HV.out
          · exact HW.out j (by omega)
        case measure => simp [intOf]
    by_cases k2 : k = 2
    · subst k2
      have hix := meta_ix2 t g l s e
      cases hl : timeB l
      · have HE : Hid (3 = metaC t g l s e) := (metaC_bad (by simp [metaB, hl])).symm
        go_wp2_with fail
        refine (HT.out l _).mono ?_
        rintro r w1 ⟨rfl, rfl⟩
        rw [hl]
        go_wp2_with fail
        go_ret
        exact ⟨ret_int HE.out, HB.out⟩
      · have HV : Hid (timeB l = true) := hl
        go_wp2_with fail
        refine (HT.out l _).mono ?_
        rintro r w1 ⟨rfl, rfl⟩
        rw [hl]
        clear hl
        go_wp2_with fail
        go_roundw
        case rel =>
          refine ⟨3, by omega, by go_num, fun j hj => ?_, by trivial⟩
          by_cases q : j = 2
          · subst q; exact HV.out
          · exact HW.out j (by omega)
        case measure => simp [intOf]
    by_cases k3 : k = 3
    · subst k3
      have hix := meta_ix3 t g l s e
      cases hs : timeB s
      · have HE : Hid (3 = metaC t g l s e) := (metaC_bad (by simp [metaB, hs])).symm
        go_wp2_with fail
        refine (HT.out s _).mono ?_
        rintro r w1 ⟨rfl, rfl⟩
        rw [hs]
        go_wp2_with fail
        go_ret
        exact ⟨ret_int HE.out, HB.out⟩
      · have HV : Hid (timeB s = true) := hs
        go_wp2_with fail
        refine (HT.out s _).mono ?_
        rintro r w1 ⟨rfl, rfl⟩
        rw [hs]
        clear hs
        go_wp2_with fail
        go_roundw
        case rel =>
          refine ⟨4, by omega, by go_num, fun j hj => ?_, by trivial⟩
          by_cases q : j = 3
          · subst q; exact HV.out
          · exact HW.out j (by omega)
        case measure => simp [intOf]
    by_cases k4 : k = 4
    · subst k4
      have hix := meta_ix4 t g l s e
      cases he : timeB e
      · have HE : Hid (3 = metaC t g l s e) := (metaC_bad (by simp [metaB, he])).symm
        go_wp2_with fail
        refine (HT.out e _).mono ?_
        rintro r w1 ⟨rfl, rfl⟩
        rw [he]
        go_wp2_with fail
        go_ret
        exact ⟨ret_int HE.out, HB.out⟩
      · have HV : Hid (timeB e = true) := he
        go_wp2_with fail
        refine (HT.out e _).mono ?_
        rintro r w1 ⟨rfl, rfl⟩
        rw [he]
        clear he
        go_wp2_with fail
        go_roundw
        case rel =>
          refine ⟨5, by omega, by go_num, fun j hj => ?_, by trivial⟩
          by_cases q : j = 4
          · subst q; exact HV.out
          · exact HW.out j (by omega)
        case measure => simp [intOf]
    obtain rfl : k = 5 := by omega
    have HE : Hid (0 = metaC t g l s e) := (metaC_ok (by have h0 := HW.out 0 (by omega); have h1 := HW.out 1 (by omega); have h2 := HW.out 2 (by omega); have h3 := HW.out 3 (by omega); have h4 := HW.out 4 (by omega); simp at h0 h1 h2 h3 h4; simp [metaB, h0, h1, h2, h3, h4])).symm
    go_wp2_with fail
    go_ret
    exact ⟨ret_int HE.out, HB.out⟩
end Go.Proofs.YtlbagfaiiileoaaDoor
/-
  Four cells that may be written.
-/
namespace Go.Proofs.YtlbagfaiiileoaaDoor
open Go.ChangeShapes Go.WideShapes Go.ChangeAt Go.RowKit
structure S4 (w : World) (b : Nat) (v0 v1 v2 v3 : Value) : Prop where
  c0 : w.cell? ⟨b, 0, none⟩ = some v0
  c1 : w.cell? ⟨b, 1, none⟩ = some v1
  c2 : w.cell? ⟨b, 2, none⟩ = some v2
  c3 : w.cell? ⟨b, 3, none⟩ = some v3
  fr : ∀ o, w.frozen? ⟨b, o, none⟩ = false
  lt : b < w.heap.size
section
variable {w w' : World} {b : Nat} {v0 v1 v2 v3 : Value}
theorem S4.keep (k : S4 w b v0 v1 v2 v3) (hb : Below w.heap.size w w') : S4 w' b v0 v1 v2 v3 :=
  ⟨by rw [hb.cell (p := ⟨b, 0, none⟩) k.lt]; exact k.c0, by rw [hb.cell (p := ⟨b, 1, none⟩) k.lt]; exact k.c1, by rw [hb.cell (p := ⟨b, 2, none⟩) k.lt]; exact k.c2, by rw [hb.cell (p := ⟨b, 3, none⟩) k.lt]; exact k.c3, fun o => by rw [hb.frozen (p := ⟨b, o, none⟩) k.lt]; exact k.fr o, Nat.lt_of_lt_of_le k.lt hb.size⟩
theorem S4.new (w : World) (v0 v1 v2 v3 : Value) (t : TypeId) : S4 (w.alloc (.cells #[v0, v1, v2, v3] t)) w.heap.size v0 v1 v2 v3 := ⟨by simp, by simp, by simp, by simp, fun o => by simp, by simp⟩
theorem S4.off (k : S4 w b v0 v1 v2 v3) {B i : Nat} {x : Value} (h : B ≠ b) : S4 (w.setCell ⟨B, i, none⟩ x) b v0 v1 v2 v3 := by
  have ne : ∀ o : Nat, (⟨B, i, none⟩ : Addr) ≠ ⟨b, o, none⟩ := fun o q => h (congrArg Addr.block q)
  exact ⟨by rw [World.cell?_setCell_other _ _ _ _ (ne _)]; exact k.c0, by rw [World.cell?_setCell_other _ _ _ _ (ne _)]; exact k.c1, by rw [World.cell?_setCell_other _ _ _ _ (ne _)]; exact k.c2, by rw [World.cell?_setCell_other _ _ _ _ (ne _)]; exact k.c3, fun o => by rw [World.frozen?_setCell]; exact k.fr o, by simpa using k.lt⟩
theorem S4.set0 (k : S4 w b v0 v1 v2 v3) (x : Value) : S4 (w.setCell ⟨b, 0, none⟩ x) b x v1 v2 v3 :=
  ⟨World.cell?_setCell_same _ _ _ k.c0, by rw [World.cell?_setCell_other _ _ _ _ (by intro q; have := congrArg Addr.off q; simp at this)]; exact k.c1, by rw [World.cell?_setCell_other _ _ _ _ (by intro q; have := congrArg Addr.off q; simp at this)]; exact k.c2, by rw [World.cell?_setCell_other _ _ _ _ (by intro q; have := congrArg Addr.off q; simp at this)]; exact k.c3, fun o => by rw [World.frozen?_setCell]; exact k.fr o, by simpa using k.lt⟩
theorem S4.set1 (k : S4 w b v0 v1 v2 v3) (x : Value) : S4 (w.setCell ⟨b, 1, none⟩ x) b v0 x v2 v3 :=
  ⟨by rw [World.cell?_setCell_other _ _ _ _ (by intro q; have := congrArg Addr.off q; simp at this)]; exact k.c0, World.cell?_setCell_same _ _ _ k.c1, by rw [World.cell?_setCell_other _ _ _ _ (by intro q; have := congrArg Addr.off q; simp at this)]; exact k.c2, by rw [World.cell?_setCell_other _ _ _ _ (by intro q; have := congrArg Addr.off q; simp at this)]; exact k.c3, fun o => by rw [World.frozen?_setCell]; exact k.fr o, by simpa using k.lt⟩
theorem S4.set2 (k : S4 w b v0 v1 v2 v3) (x : Value) : S4 (w.setCell ⟨b, 2, none⟩ x) b v0 v1 x v3 :=
  ⟨by rw [World.cell?_setCell_other _ _ _ _ (by intro q; have := congrArg Addr.off q; simp at this)]; exact k.c0, by rw [World.cell?_setCell_other _ _ _ _ (by intro q; have := congrArg Addr.off q; simp at this)]; exact k.c1, World.cell?_setCell_same _ _ _ k.c2, by rw [World.cell?_setCell_other _ _ _ _ (by intro q; have := congrArg Addr.off q; simp at this)]; exact k.c3, fun o => by rw [World.frozen?_setCell]; exact k.fr o, by simpa using k.lt⟩
theorem S4.set3 (k : S4 w b v0 v1 v2 v3) (x : Value) : S4 (w.setCell ⟨b, 3, none⟩ x) b v0 v1 v2 x :=
  ⟨by rw [World.cell?_setCell_other _ _ _ _ (by intro q; have := congrArg Addr.off q; simp at this)]; exact k.c0, by rw [World.cell?_setCell_other _ _ _ _ (by intro q; have := congrArg Addr.off q; simp at this)]; exact k.c1, by rw [World.cell?_setCell_other _ _ _ _ (by intro q; have := congrArg Addr.off q; simp at this)]; exact k.c2, World.cell?_setCell_same _ _ _ k.c3, fun o => by rw [World.frozen?_setCell]; exact k.fr o, by simpa using k.lt⟩
end
end Go.Proofs.YtlbagfaiiileoaaDoor
/-
  Five cells that may be written.
-/
namespace Go.Proofs.YtlbagfaiiileoaaDoor
open Go.ChangeShapes Go.WideShapes Go.ChangeAt Go.RowKit
structure S5 (w : World) (b : Nat) (v0 v1 v2 v3 v4 : Value) : Prop where
  c0 : w.cell? ⟨b, 0, none⟩ = some v0
  c1 : w.cell? ⟨b, 1, none⟩ = some v1
  c2 : w.cell? ⟨b, 2, none⟩ = some v2
  c3 : w.cell? ⟨b, 3, none⟩ = some v3
  c4 : w.cell? ⟨b, 4, none⟩ = some v4
  fr : ∀ o, w.frozen? ⟨b, o, none⟩ = false
  lt : b < w.heap.size
section
variable {w w' : World} {b : Nat} {v0 v1 v2 v3 v4 : Value}
theorem S5.keep (k : S5 w b v0 v1 v2 v3 v4) (hb : Below w.heap.size w w') : S5 w' b v0 v1 v2 v3 v4 :=
  ⟨by rw [hb.cell (p := ⟨b, 0, none⟩) k.lt]; exact k.c0, by rw [hb.cell (p := ⟨b, 1, none⟩) k.lt]; exact k.c1, by rw [hb.cell (p := ⟨b, 2, none⟩) k.lt]; exact k.c2, by rw [hb.cell (p := ⟨b, 3, none⟩) k.lt]; exact k.c3, by rw [hb.cell (p := ⟨b, 4, none⟩) k.lt]; exact k.c4, fun o => by rw [hb.frozen (p := ⟨b, o, none⟩) k.lt]; exact k.fr o, Nat.lt_of_lt_of_le k.lt hb.size⟩
theorem S5.new (w : World) (v0 v1 v2 v3 v4 : Value) (t : TypeId) : S5 (w.alloc (.cells #[v0, v1, v2, v3, v4] t)) w.heap.size v0 v1 v2 v3 v4 := ⟨by simp, by simp, by simp, by simp, by simp, fun o => by simp, by simp⟩
theorem S5.off (k : S5 w b v0 v1 v2 v3 v4) {B i : Nat} {x : Value} (h : B ≠ b) : S5 (w.setCell ⟨B, i, none⟩ x) b v0 v1 v2 v3 v4 := by
  have ne : ∀ o : Nat, (⟨B, i, none⟩ : Addr) ≠ ⟨b, o, none⟩ := fun o q => h (congrArg Addr.block q)
  exact ⟨by rw [World.cell?_setCell_other _ _ _ _ (ne _)]; exact k.c0, by rw [World.cell?_setCell_other _ _ _ _ (ne _)]; exact k.c1, by rw [World.cell?_setCell_other _ _ _ _ (ne _)]; exact k.c2, by rw [World.cell?_setCell_other _ _ _ _ (ne _)]; exact k.c3, by rw [World.cell?_setCell_other _ _ _ _ (ne _)]; exact k.c4, fun o => by rw [World.frozen?_setCell]; exact k.fr o, by simpa using k.lt⟩
theorem S5.set0 (k : S5 w b v0 v1 v2 v3 v4) (x : Value) : S5 (w.setCell ⟨b, 0, none⟩ x) b x v1 v2 v3 v4 :=
  ⟨World.cell?_setCell_same _ _ _ k.c0, by rw [World.cell?_setCell_other _ _ _ _ (by intro q; have := congrArg Addr.off q; simp at this)]; exact k.c1, by rw [World.cell?_setCell_other _ _ _ _ (by intro q; have := congrArg Addr.off q; simp at this)]; exact k.c2, by rw [World.cell?_setCell_other _ _ _ _ (by intro q; have := congrArg Addr.off q; simp at this)]; exact k.c3, by rw [World.cell?_setCell_other _ _ _ _ (by intro q; have := congrArg Addr.off q; simp at this)]; exact k.c4, fun o => by rw [World.frozen?_setCell]; exact k.fr o, by simpa using k.lt⟩
theorem S5.set1 (k : S5 w b v0 v1 v2 v3 v4) (x : Value) : S5 (w.setCell ⟨b, 1, none⟩ x) b v0 x v2 v3 v4 :=
  ⟨by rw [World.cell?_setCell_other _ _ _ _ (by intro q; have := congrArg Addr.off q; simp at this)]; exact k.c0, World.cell?_setCell_same _ _ _ k.c1, by rw [World.cell?_setCell_other _ _ _ _ (by intro q; have := congrArg Addr.off q; simp at this)]; exact k.c2, by rw [World.cell?_setCell_other _ _ _ _ (by intro q; have := congrArg Addr.off q; simp at this)]; exact k.c3, by rw [World.cell?_setCell_other _ _ _ _ (by intro q; have := congrArg Addr.off q; simp at this)]; exact k.c4, fun o => by rw [World.frozen?_setCell]; exact k.fr o, by simpa using k.lt⟩
theorem S5.set2 (k : S5 w b v0 v1 v2 v3 v4) (x : Value) : S5 (w.setCell ⟨b, 2, none⟩ x) b v0 v1 x v3 v4 :=
  ⟨by rw [World.cell?_setCell_other _ _ _ _ (by intro q; have := congrArg Addr.off q; simp at this)]; exact k.c0, by rw [World.cell?_setCell_other _ _ _ _ (by intro q; have := congrArg Addr.off q; simp at this)]; exact k.c1, World.cell?_setCell_same _ _ _ k.c2, by rw [World.cell?_setCell_other _ _ _ _ (by intro q; have := congrArg Addr.off q; simp at this)]; exact k.c3, by rw [World.cell?_setCell_other _ _ _ _ (by intro q; have := congrArg Addr.off q; simp at this)]; exact k.c4, fun o => by rw [World.frozen?_setCell]; exact k.fr o, by simpa using k.lt⟩
theorem S5.set3 (k : S5 w b v0 v1 v2 v3 v4) (x : Value) : S5 (w.setCell ⟨b, 3, none⟩ x) b v0 v1 v2 x v4 :=
  ⟨by rw [World.cell?_setCell_other _ _ _ _ (by intro q; have := congrArg Addr.off q; simp at this)]; exact k.c0, by rw [World.cell?_setCell_other _ _ _ _ (by intro q; have := congrArg Addr.off q; simp at this)]; exact k.c1, by rw [World.cell?_setCell_other _ _ _ _ (by intro q; have := congrArg Addr.off q; simp at this)]; exact k.c2, World.cell?_setCell_same _ _ _ k.c3, by rw [World.cell?_setCell_other _ _ _ _ (by intro q; have := congrArg Addr.off q; simp at this)]; exact k.c4, fun o => by rw [World.frozen?_setCell]; exact k.fr o, by simpa using k.lt⟩
theorem S5.set4 (k : S5 w b v0 v1 v2 v3 v4) (x : Value) : S5 (w.setCell ⟨b, 4, none⟩ x) b v0 v1 v2 v3 x :=
  ⟨by rw [World.cell?_setCell_other _ _ _ _ (by intro q; have := congrArg Addr.off q; simp at this)]; exact k.c0, by rw [World.cell?_setCell_other _ _ _ _ (by intro q; have := congrArg Addr.off q; simp at this)]; exact k.c1, by rw [World.cell?_setCell_other _ _ _ _ (by intro q; have := congrArg Addr.off q; simp at this)]; exact k.c2, by rw [World.cell?_setCell_other _ _ _ _ (by intro q; have := congrArg Addr.off q; simp at this)]; exact k.c3, World.cell?_setCell_same _ _ _ k.c4, fun o => by rw [World.frozen?_setCell]; exact k.fr o, by simpa using k.lt⟩
end
end Go.Proofs.YtlbagfaiiileoaaDoor
/-
  Numbers within bounds; RulesFault, on both sides; a copy of rules.
-/
namespace Go.Proofs.YtlbagfaiiileoaaDoor
open Go.ChangeShapes Go.WideShapes Go.ChangeAt Go.RowKit Go.Sort
def inW (lo hi x : Int) : Bool := decide (lo ≤ x) && decide (x ≤ hi)
theorem inW_yes {lo hi x : Int} (h0 : lo ≤ x) (h1 : x ≤ hi) : inW lo hi x = true := by simp [inW, h0, h1]
theorem inW_of {lo hi x : Int} (h : inW lo hi x = true) : lo ≤ x ∧ x ≤ hi := by simpa [inW] using h
theorem l1In_w (x lo hi : Int) (w : World) : Calls Tryd.prog 11 #[.int .i64 x, .int .i64 lo, .int .i64 hi] w fun r w' => r = .returned (.bool (inW lo hi x)) ∧ w' = w := by
  by_cases c1 : lo ≤ x
  · by_cases c2 : x ≤ hi
    · rw [inW_yes c1 c2]
      have d2 : decide (x ≤ hi) = true := by simpa using c2
      go_enter Tryd.func11, Tryd.ntmps11
      go_wp2
      go_ret
      exact ⟨rfl, rfl⟩
    · have e : inW lo hi x = false := by simp [inW]; omega
      rw [e]
      have d2 : decide (x ≤ hi) = false := by simpa using c2
      go_enter Tryd.func11, Tryd.ntmps11
      go_wp2
      go_ret
      exact ⟨rfl, rfl⟩
  · have e : inW lo hi x = false := by simp [inW]; omega
    rw [e]
    go_enter Tryd.func11, Tryd.ntmps11
    go_wp2
    go_ret
    exact ⟨rfl, rfl⟩
theorem isWithin_all (x lo hi : Int) (w : World) : Calls Tryd.prog 30 #[.int .i64 x, .int .i64 lo, .int .i64 hi] w fun r w' => r = .returned (.bool (inW lo hi x)) ∧ w' = w := by
  by_cases c1 : lo ≤ x
  · by_cases c2 : x ≤ hi
    · rw [inW_yes c1 c2]
      have d2 : decide (x ≤ hi) = true := by simpa using c2
      go_enter Tryd.func30, Tryd.ntmps30
      go_wp2
      go_ret
      exact ⟨rfl, rfl⟩
    · have e : inW lo hi x = false := by simp [inW]; omega
      rw [e]
      have d2 : decide (x ≤ hi) = false := by simpa using c2
      go_enter Tryd.func30, Tryd.ntmps30
      go_wp2
      go_ret
      exact ⟨rfl, rfl⟩
  · have e : inW lo hi x = false := by simp [inW]; omega
    rw [e]
    go_enter Tryd.func30, Tryd.ntmps30
    go_wp2
    go_ret
    exact ⟨rfl, rfl⟩
def rulesB (a0 a1 a2 a3 a4 : Int) : Bool := inW 1 1000000 a0 && inW 1 50 a1 && inW 1 1000 a2 && inW 0 1000000 a3 && inW 1 5 a4
def rulesC (a0 a1 a2 a3 a4 : Int) : Int := if rulesB a0 a1 a2 a3 a4 = true then 0 else 3
theorem rulesC_ok {a0 a1 a2 a3 a4 : Int} (h : rulesB a0 a1 a2 a3 a4 = true) : rulesC a0 a1 a2 a3 a4 = 0 := by rw [rulesC, if_pos h]
theorem rulesC_bad {a0 a1 a2 a3 a4 : Int} (h : rulesB a0 a1 a2 a3 a4 = false) : rulesC a0 a1 a2 a3 a4 = 3 := by rw [rulesC, if_neg (by rw [h]; decide)]
theorem rulesB_of {a0 a1 a2 a3 a4 : Int} (h : rulesB a0 a1 a2 a3 a4 = true) : (1 ≤ a0 ∧ a0 ≤ 1000000) ∧ (1 ≤ a1 ∧ a1 ≤ 50) ∧ (1 ≤ a2 ∧ a2 ≤ 1000) ∧ (0 ≤ a3 ∧ a3 ≤ 1000000) ∧ (1 ≤ a4 ∧ a4 ≤ 5) := by
  simp only [rulesB, Bool.and_eq_true] at h
  exact ⟨inW_of h.1.1.1.1, inW_of h.1.1.1.2, inW_of h.1.1.2, inW_of h.1.2, inW_of h.2⟩
set_option maxHeartbeats 4000000 in
theorem specRules_any (a0 a1 a2 a3 a4 : Int) (w : World) :
    Calls Tryd.prog 15 #[.agg #[.int .i64 a0, .int .i64 a1, .int .i64 a2, .int .i64 a3, .int .i64 a4]] w fun r w' => r = .returned (.int .i64 (rulesC a0 a1 a2 a3 a4)) ∧ Below w.heap.size w w' := by
  have HT : Hid (∀ x lo hi w, Calls Tryd.prog 11 #[.int .i64 x, .int .i64 lo, .int .i64 hi] w fun r w' => r = .returned (.bool (inW lo hi x)) ∧ w' = w) := l1In_w
  have HB : Hid (Below w.heap.size w (w.alloc (.cells #[.int .i64 a0, .int .i64 a1, .int .i64 a2, .int .i64 a3, .int .i64 a4] 32))) := (Below.refl _ _).alloc (Nat.le_refl _) _
  cases h0 : inW 1 1000000 a0
  · rw [rulesC_bad (by simp [rulesB, h0])]
    go_enter Tryd.func15, Tryd.ntmps15
    go_wp2_with fail
    refine (HT.out a0 1 1000000 _).mono ?_
    rintro r w1 ⟨rfl, rfl⟩
    rw [h0]
    go_wp2_with fail
    go_ret
    exact ⟨rfl, HB.out⟩
  cases h1 : inW 1 50 a1
  · rw [rulesC_bad (by simp [rulesB, h1])]
    go_enter Tryd.func15, Tryd.ntmps15
    go_wp2_with fail
    refine (HT.out a0 1 1000000 _).mono ?_
    rintro r w1 ⟨rfl, rfl⟩
    rw [h0]
    go_wp2_with fail
    refine (HT.out a1 1 50 _).mono ?_
    rintro r w1 ⟨rfl, rfl⟩
    rw [h1]
    go_wp2_with fail
    go_ret
    exact ⟨rfl, HB.out⟩
  cases h2 : inW 1 1000 a2
  · rw [rulesC_bad (by simp [rulesB, h2])]
    go_enter Tryd.func15, Tryd.ntmps15
    go_wp2_with fail
    refine (HT.out a0 1 1000000 _).mono ?_
    rintro r w1 ⟨rfl, rfl⟩
    rw [h0]
    go_wp2_with fail
    refine (HT.out a1 1 50 _).mono ?_
    rintro r w1 ⟨rfl, rfl⟩
    rw [h1]
    go_wp2_with fail
    refine (HT.out a2 1 1000 _).mono ?_
    rintro r w1 ⟨rfl, rfl⟩
    rw [h2]
    go_wp2_with fail
    go_ret
    exact ⟨rfl, HB.out⟩
  cases h3 : inW 0 1000000 a3
  · rw [rulesC_bad (by simp [rulesB, h3])]
    go_enter Tryd.func15, Tryd.ntmps15
    go_wp2_with fail
    refine (HT.out a0 1 1000000 _).mono ?_
    rintro r w1 ⟨rfl, rfl⟩
    rw [h0]
    go_wp2_with fail
    refine (HT.out a1 1 50 _).mono ?_
    rintro r w1 ⟨rfl, rfl⟩
    rw [h1]
    go_wp2_with fail
    refine (HT.out a2 1 1000 _).mono ?_
    rintro r w1 ⟨rfl, rfl⟩
    rw [h2]
    go_wp2_with fail
    refine (HT.out a3 0 1000000 _).mono ?_
    rintro r w1 ⟨rfl, rfl⟩
    rw [h3]
    go_wp2_with fail
    go_ret
    exact ⟨rfl, HB.out⟩
  cases h4 : inW 1 5 a4
  · rw [rulesC_bad (by simp [rulesB, h4])]
    go_enter Tryd.func15, Tryd.ntmps15
    go_wp2_with fail
    refine (HT.out a0 1 1000000 _).mono ?_
    rintro r w1 ⟨rfl, rfl⟩
    rw [h0]
    go_wp2_with fail
    refine (HT.out a1 1 50 _).mono ?_
    rintro r w1 ⟨rfl, rfl⟩
    rw [h1]
    go_wp2_with fail
    refine (HT.out a2 1 1000 _).mono ?_
    rintro r w1 ⟨rfl, rfl⟩
    rw [h2]
    go_wp2_with fail
    refine (HT.out a3 0 1000000 _).mono ?_
    rintro r w1 ⟨rfl, rfl⟩
    rw [h3]
    go_wp2_with fail
    refine (HT.out a4 1 5 _).mono ?_
    rintro r w1 ⟨rfl, rfl⟩
    rw [h4]
    go_wp2_with fail
    go_ret
    exact ⟨rfl, HB.out⟩
  · rw [rulesC_ok (by simp [rulesB, h0, h1, h2, h3, h4])]
    go_enter Tryd.func15, Tryd.ntmps15
    go_wp2_with fail
    refine (HT.out a0 1 1000000 _).mono ?_
    rintro r w1 ⟨rfl, rfl⟩
    rw [h0]
    go_wp2_with fail
    refine (HT.out a1 1 50 _).mono ?_
    rintro r w1 ⟨rfl, rfl⟩
    rw [h1]
    go_wp2_with fail
    refine (HT.out a2 1 1000 _).mono ?_
    rintro r w1 ⟨rfl, rfl⟩
    rw [h2]
    go_wp2_with fail
    refine (HT.out a3 0 1000000 _).mono ?_
    rintro r w1 ⟨rfl, rfl⟩
    rw [h3]
    go_wp2_with fail
    refine (HT.out a4 1 5 _).mono ?_
    rintro r w1 ⟨rfl, rfl⟩
    rw [h4]
    go_wp2_with fail
    go_ret
    exact ⟨rfl, HB.out⟩
set_option maxHeartbeats 4000000 in
theorem implRules_any (a0 a1 a2 a3 a4 : Int) (w : World) :
    Calls Tryd.prog 23 #[.agg #[.int .i64 a0, .int .i64 a1, .int .i64 a2, .int .i64 a3, .int .i64 a4]] w fun r w' => r = .returned (.int .i64 (rulesC a0 a1 a2 a3 a4)) ∧ Below w.heap.size w w' := by
  have HT : Hid (∀ x lo hi w, Calls Tryd.prog 30 #[.int .i64 x, .int .i64 lo, .int .i64 hi] w fun r w' => r = .returned (.bool (inW lo hi x)) ∧ w' = w) := isWithin_all
  have HB : Hid (Below w.heap.size w (w.alloc (.cells #[.int .i64 a0, .int .i64 a1, .int .i64 a2, .int .i64 a3, .int .i64 a4] 32))) := (Below.refl _ _).alloc (Nat.le_refl _) _
  cases h0 : inW 1 1000000 a0
  · rw [rulesC_bad (by simp [rulesB, h0])]
    go_enter Tryd.func23, Tryd.ntmps23
    go_wp2_with fail
    refine (HT.out a0 1 1000000 _).mono ?_
    rintro r w1 ⟨rfl, rfl⟩
    rw [h0]
    go_wp2_with fail
    go_ret
    exact ⟨rfl, HB.out⟩
  cases h1 : inW 1 50 a1
  · rw [rulesC_bad (by simp [rulesB, h1])]
    go_enter Tryd.func23, Tryd.ntmps23
    go_wp2_with fail
    refine (HT.out a0 1 1000000 _).mono ?_
    rintro r w1 ⟨rfl, rfl⟩
    rw [h0]
    go_wp2_with fail
    refine (HT.out a1 1 50 _).mono ?_
    rintro r w1 ⟨rfl, rfl⟩
    rw [h1]
    go_wp2_with fail
    go_ret
    exact ⟨rfl, HB.out⟩
  cases h2 : inW 1 1000 a2
  · rw [rulesC_bad (by simp [rulesB, h2])]
    go_enter Tryd.func23, Tryd.ntmps23
    go_wp2_with fail
    refine (HT.out a0 1 1000000 _).mono ?_
    rintro r w1 ⟨rfl, rfl⟩
    rw [h0]
    go_wp2_with fail
    refine (HT.out a1 1 50 _).mono ?_
    rintro r w1 ⟨rfl, rfl⟩
    rw [h1]
    go_wp2_with fail
    refine (HT.out a2 1 1000 _).mono ?_
    rintro r w1 ⟨rfl, rfl⟩
    rw [h2]
    go_wp2_with fail
    go_ret
    exact ⟨rfl, HB.out⟩
  cases h3 : inW 0 1000000 a3
  · rw [rulesC_bad (by simp [rulesB, h3])]
    go_enter Tryd.func23, Tryd.ntmps23
    go_wp2_with fail
    refine (HT.out a0 1 1000000 _).mono ?_
    rintro r w1 ⟨rfl, rfl⟩
    rw [h0]
    go_wp2_with fail
    refine (HT.out a1 1 50 _).mono ?_
    rintro r w1 ⟨rfl, rfl⟩
    rw [h1]
    go_wp2_with fail
    refine (HT.out a2 1 1000 _).mono ?_
    rintro r w1 ⟨rfl, rfl⟩
    rw [h2]
    go_wp2_with fail
    refine (HT.out a3 0 1000000 _).mono ?_
    rintro r w1 ⟨rfl, rfl⟩
    rw [h3]
    go_wp2_with fail
    go_ret
    exact ⟨rfl, HB.out⟩
  cases h4 : inW 1 5 a4
  · rw [rulesC_bad (by simp [rulesB, h4])]
    go_enter Tryd.func23, Tryd.ntmps23
    go_wp2_with fail
    refine (HT.out a0 1 1000000 _).mono ?_
    rintro r w1 ⟨rfl, rfl⟩
    rw [h0]
    go_wp2_with fail
    refine (HT.out a1 1 50 _).mono ?_
    rintro r w1 ⟨rfl, rfl⟩
    rw [h1]
    go_wp2_with fail
    refine (HT.out a2 1 1000 _).mono ?_
    rintro r w1 ⟨rfl, rfl⟩
    rw [h2]
    go_wp2_with fail
    refine (HT.out a3 0 1000000 _).mono ?_
    rintro r w1 ⟨rfl, rfl⟩
    rw [h3]
    go_wp2_with fail
    refine (HT.out a4 1 5 _).mono ?_
    rintro r w1 ⟨rfl, rfl⟩
    rw [h4]
    go_wp2_with fail
    go_ret
    exact ⟨rfl, HB.out⟩
  · rw [rulesC_ok (by simp [rulesB, h0, h1, h2, h3, h4])]
    go_enter Tryd.func23, Tryd.ntmps23
    go_wp2_with fail
    refine (HT.out a0 1 1000000 _).mono ?_
    rintro r w1 ⟨rfl, rfl⟩
    rw [h0]
    go_wp2_with fail
    refine (HT.out a1 1 50 _).mono ?_
    rintro r w1 ⟨rfl, rfl⟩
    rw [h1]
    go_wp2_with fail
    refine (HT.out a2 1 1000 _).mono ?_
    rintro r w1 ⟨rfl, rfl⟩
    rw [h2]
    go_wp2_with fail
    refine (HT.out a3 0 1000000 _).mono ?_
    rintro r w1 ⟨rfl, rfl⟩
    rw [h3]
    go_wp2_with fail
    refine (HT.out a4 1 5 _).mono ?_
    rintro r w1 ⟨rfl, rfl⟩
    rw [h4]
    go_wp2_with fail
    go_ret
    exact ⟨rfl, HB.out⟩
set_option maxHeartbeats 1000000 in
theorem toRules_any (a0 a1 a2 a3 a4 : Int) (w : World) :
    Calls Tryd.prog 18 #[.agg #[.int .i64 a0, .int .i64 a1, .int .i64 a2, .int .i64 a3, .int .i64 a4]] w fun r w' => r = .returned (.agg #[.int .i64 a0, .int .i64 a1, .int .i64 a2, .int .i64 a3, .int .i64 a4]) ∧ Below w.heap.size w w' := by
  go_enter Tryd.func18, Tryd.ntmps18
  go_wp2
  exact bodyPost_ret (v := .agg #[.int .i64 a0, .int .i64 a1, .int .i64 a2, .int .i64 a3, .int .i64 a4]) (by simp [results, Tryd.results18, go_sem]) rfl ⟨rfl, (((Below.refl w.heap.size w).alloc (Nat.le_refl _) _).alloc (by simp) _).alloc (by simp; omega) _⟩
end Go.Proofs.YtlbagfaiiileoaaDoor
/-
  Those who wait in memory.
-/
namespace Go.Proofs.YtlbagfaiiileoaaDoor
open Go.ChangeShapes Go.WideShapes Go.ChangeAt Go.RowKit
structure Wt where
  wi : Int
  du : Int
def WtAt (w : World) (b off : Nat) (l : List Wt) : Prop :=
  ∀ (i : Nat) r, l[i]? = some r → w.cell? ⟨b, off + i * 2, none⟩ = some (.int .i64 r.wi) ∧ w.cell? ⟨b, off + i * 2 + 1, none⟩ = some (.int .i64 r.du)
theorem WtAt.keep {w w' : World} {b off : Nat} {l : List Wt} (h : WtAt w b off l) (hb : Below w.heap.size w w') : WtAt w' b off l := by
  intro i r hr
  obtain ⟨p0, p1⟩ := h i r hr
  exact ⟨by rw [hb.cell (block_lt_of_cell p0)]; exact p0, by rw [hb.cell (block_lt_of_cell p1)]; exact p1⟩
/-- The slice at a holds l. -/
def WtIn (w : World) (a : Option Addr) (l : List Wt) : Prop := l = [] ∨ ∃ b off, a = some ⟨b, off, none⟩ ∧ WtAt w b off l
theorem WtIn.keep {w w' : World} {a : Option Addr} {l : List Wt} (h : WtIn w a l) (hb : Below w.heap.size w w') : WtIn w' a l := by
  rcases h with h | ⟨b, off, e, hat⟩
  · exact .inl h
  · exact .inr ⟨b, off, e, hat.keep hb⟩
theorem dropWt (l : List Wt) (k : Nat) (r : Wt) (h : l[k]? = some r) : l.drop k = r :: l.drop (k + 1) := by
  obtain ⟨hk, rfl⟩ := List.getElem?_eq_some_iff.1 h
  exact List.drop_eq_getElem_cons hk
def szWt (left : Int) (n : Nat) : Int := if left - (n : Int) < 0 then -1 else left - (n : Int)
theorem szWt_room {left : Int} {n : Nat} (h1 : left ≤ 1048576) (h : ¬ szWt left n < 0) : (n : Int) ≤ 1048576 ∧ szWt left n ≤ left ∧ 0 ≤ szWt left n := by
  unfold szWt at h ⊢
  by_cases c0 : left - (n : Int) < 0
  · rw [if_pos c0] at h; omega
  · rw [if_neg c0] at h ⊢; omega
end Go.Proofs.YtlbagfaiiileoaaDoor
/-
  The laws' copy of a list, and their comparing of two.
-/
namespace Go.Proofs.YtlbagfaiiileoaaDoor
open Go.ChangeShapes Go.WideShapes Go.ChangeAt Go.RowKit Go.Sort
/-- m cells from the head of block G on are there and may be written. -/
def RoomWt (w : World) (G m : Nat) : Prop := ∀ j, j < m → (∃ u, w.cell? ⟨G, j, none⟩ = some u) ∧ w.frozen? ⟨G, j, none⟩ = false
theorem RoomWt.keep {w w' : World} {G m : Nat} (h : RoomWt w G m) (hb : Below w.heap.size w w') : RoomWt w' G m := by
  intro j hj
  obtain ⟨⟨u, hu⟩, hf⟩ := h j hj
  exact ⟨⟨u, by rw [hb.cell (block_lt_of_cell hu)]; exact hu⟩, by rw [hb.frozen (block_lt_of_cell hu)]; exact hf⟩
theorem RoomWt.set {w : World} {G m : Nat} (h : RoomWt w G m) (a : Addr) (v : Value) : RoomWt (w.setCell a v) G m := by
  intro j hj
  obtain ⟨⟨u, hu⟩, hf⟩ := h j hj
  refine ⟨?_, by rw [World.frozen?_setCell]; exact hf⟩
  by_cases e : a = ⟨G, j, none⟩
  · exact ⟨v, by subst e; exact World.cell?_setCell_same _ _ _ hu⟩
  · exact ⟨u, by rw [World.cell?_setCell_other _ _ _ _ e]; exact hu⟩
def putWt (w : World) (G k : Nat) (r : Wt) : World := (w.setCell ⟨G, k * 2, none⟩ (.int .i64 r.wi)).setCell ⟨G, k * 2 + 1, none⟩ (.int .i64 r.du)
theorem offWt_ne {G i j : Nat} (h : i ≠ j) : (⟨G, i, none⟩ : Addr) ≠ ⟨G, j, none⟩ := fun e => h (congrArg Addr.off e)
theorem putWt_other (w : World) (G k : Nat) (r : Wt) (j : Nat) (h0 : k * 2 ≠ j) (h1 : k * 2 + 1 ≠ j) : (putWt w G k r).cell? ⟨G, j, none⟩ = w.cell? ⟨G, j, none⟩ := by
  unfold putWt
  rw [World.cell?_setCell_other _ _ _ _ (offWt_ne h1), World.cell?_setCell_other _ _ _ _ (offWt_ne h0)]
theorem RoomWt.put {w : World} {G m : Nat} (h : RoomWt w G m) (k : Nat) (r : Wt) : RoomWt (putWt w G k r) G m := (h.set _ _).set _ _
theorem WtAt.put {w : World} {G n : Nat} {l : List Wt} {k : Nat} {r : Wt} (h : WtAt w G 0 (l.take k)) (hr : l[k]? = some r) (hm : RoomWt w G (n * 2)) (hk : k < n) : WtAt (putWt w G k r) G 0 (l.take (k + 1)) := by
  intro i q hq
  have hi : i < k + 1 := by
    have := (List.getElem?_eq_some_iff.1 hq).1
    simp at this; omega
  rw [List.getElem?_take_of_lt hi] at hq
  simp only [Nat.zero_add]
  by_cases e : i = k
  · subst e
    rw [hr] at hq
    obtain rfl := Option.some.inj hq
    obtain ⟨⟨u0, g0⟩, _⟩ := hm (i * 2) (by omega)
    obtain ⟨⟨u1, g1⟩, _⟩ := (hm.set ⟨G, i * 2, none⟩ (.int .i64 r.wi)) (i * 2 + 1) (by omega)
    unfold putWt
    exact ⟨by rw [World.cell?_setCell_other _ _ _ _ (offWt_ne (by omega))]; exact World.cell?_setCell_same _ _ _ g0, by exact World.cell?_setCell_same _ _ _ g1⟩
  · have hq2 : (l.take k)[i]? = some q := by rw [List.getElem?_take_of_lt (by omega)]; exact hq
    obtain ⟨a0, a1⟩ := h i q hq2
    simp only [Nat.zero_add] at a0 a1
    exact ⟨by rw [putWt_other _ _ _ _ _ (by omega) (by omega)]; exact a0, by rw [putWt_other _ _ _ _ _ (by omega) (by omega)]; exact a1⟩
end Go.Proofs.YtlbagfaiiileoaaDoor
/-
  Appending, for whatever element: what is appended may be nil.
-/
namespace Go.Proofs.YtlbagfaiiileoaaDoor
open Go.ChangeShapes Go.WideShapes Go.ChangeAt Go.RowKit Go.Sort
theorem row_ge {w : World} {base : Nat} {e : TypeId} {size : Nat} {v : Value} {n : Nat} {xs : List Value} (h : w.ownsRow base e size v n xs) (q : Nat) (hq : v.ownBlock = some q) : base ≤ q := (World.ownsRow.lt h q hq).1
theorem row_form {w : World} {base : Nat} {e : TypeId} {size : Nat} {v : Value} {n : Nat} {xs : List Value} (h : w.ownsRow base e size v n xs) : ∃ va vc, v = .slice va n vc ∧ n ≤ vc := by
  obtain ⟨_, h1 | ⟨g, c2, cur, e2, _, _, hc2, _⟩⟩ := h
  · obtain ⟨rfl, rfl⟩ := h1
    exact ⟨none, 0, rfl, Nat.le_refl _⟩
  · exact ⟨_, c2, e2, hc2⟩
theorem row_below {w w' : World} {base : Nat} {e : TypeId} {size : Nat} {v : Value} {n : Nat} {xs : List Value} (h : w.ownsRow base e size v n xs) (hb : Below w.heap.size w w') : w'.ownsRow base e size v n xs := by
  obtain ⟨h1, h2⟩ := h
  refine ⟨h1, ?_⟩
  rcases h2 with h2 | ⟨g, c, cur, e, hg, hh, hrest⟩
  · exact .inl h2
  · exact .inr ⟨g, c, cur, e, hg, by rw [hb.block g (Array.getElem?_eq_some_iff.1 hh).1]; exact hh, hrest⟩
theorem row_lower {w : World} {b0 base : Nat} {e : TypeId} {size : Nat} {v : Value} {n : Nat} {xs : List Value} (h : w.ownsRow base e size v n xs) (hb : b0 ≤ base) : w.ownsRow b0 e size v n xs := by
  obtain ⟨h1, h2⟩ := h
  refine ⟨h1, ?_⟩
  rcases h2 with h2 | ⟨g, c, cur, e, hg, hrest⟩
  · exact .inl h2
  · exact .inr ⟨g, c, cur, e, by omega, hrest⟩
theorem row_zero {P : Program} (w : World) (t ty e : TypeId) (i : TypeInfo) (ht : P.underlying t = some (.slice e)) (hi : P.info? e = some i) (base : Option Addr) (n k : Nat) (hle : n ≤ k) (pb : Option Addr) (c : Nat) :
    (Builtin.append_ #[t, t] ty #[.slice base n k, .slice pb 0 c]).run P w = .ok (.slice base n k) w := by
  cases base <;> cases pb <;> simp [Builtin.append_, run_underlying ht, sizeOf, typeInfo, hi, Builtin.lenOf, Builtin.firstCells, hle, storeCells, loadCells, loadCellsFrom]
section
variable {P : Program}
theorem wp_append_in {o : Oper} {a : Act} {K : Act → World → Prop} {Q : Exit → Act → World → Prop} (w : World) (s x : Operand) (t e : TypeId)
    (ho : o.op = .call { callee := .builtin .append, args := #[s, x], argTypes := #[t, t] })
    (i : TypeInfo) (z : Value) (size bytes : Nat) (ht : P.underlying t = some (.slice e)) (hi : P.info? e = some i) (hz : i.zero = some z) (hsize : i.size = size) (hby : i.bytes = bytes) (hzs : z.cells.size = size) (hsz : 0 < size)
    (base : Nat) (v : Value) (n : Nat) (xs : List Value) (hs : a.eval s = v) (hown : w.ownsRow base e size v n xs)
    (pa : Option Addr) (cap m : Nat) (news : List Value) (hx : a.eval x = .slice pa m cap) (hl : news.length = m * size) (hnews : m = 0 ∨ ∃ ad, pa = some ad ∧ ∀ j u, news[j]? = some u → w.cell? (ad.add j) = some u) (h1 : ∀ u ∈ news, u.oneCell' = true)
    (h63 : n + m ≤ maxLen) (hbytes : (n + m) * bytes ≤ 140737488355328) (hbase : base ≤ w.heap.size)
    (h : ∀ v' w', w'.ownsRow base e size v' (n + m) (xs ++ news) → Below base w w' → (∀ b o, b < w.heap.size → v.ownBlock ≠ some b → w'.cell? ⟨b, o, none⟩ = w.cell? ⟨b, o, none⟩ ∧ w'.frozen? ⟨b, o, none⟩ = w.frozen? ⟨b, o, none⟩) → K (a.put o.dst v') w') :
    Oper.wp P o a w K Q := by
  by_cases h0 : m = 0
  · subst h0
    obtain ⟨va, vc, rfl, hle⟩ := row_form hown
    have en : news = [] := List.eq_nil_of_length_eq_zero (by rw [hl, Nat.zero_mul])
    subst en
    unfold Oper.wp execOp
    simp only [ho, resolve, invoke, builtin, Sem.run_bind, Sem.run_pure, Result.andThen_ok, List.map_toArray, List.map_cons, List.map_nil, hs, hx]
    rw [row_zero w t _ e i ht hi va n vc hle pa cap]
    exact h _ w (by simpa using hown) (Below.refl _ _) (fun _ _ _ _ => ⟨rfl, rfl⟩)
  · rcases hnews with hnews | ⟨ad, rfl, hnews⟩
    · exact absurd hnews h0
    · refine wp_append_lies w s x t ho base e i z size bytes ht hi hz hsize hby hzs hsz v n xs hs hown ad m cap news hx hl hnews h1 (by omega) h63 hbytes hbase _ rfl ?_
      intro g c w' h1 h2 h3 h4
      exact h _ w' h1 ((Below.refl base w).grown h2 hbase (fun q hq => row_ge hown q hq)) (fun b o hb hne => ⟨h2.cell_far ⟨b, o, none⟩ hb hne.symm, h2.frozen_far ⟨b, o, none⟩ hb hne.symm⟩)
theorem step_append_in {ops : Array Oper} {o : Oper} {a : Act} {K : Act → World → Prop} {Q : Exit → Act → World → Prop} {E : Prop} (w : World) (hgd : o.guard = none) (s x : Operand) (t e : TypeId)
    (ho : o.op = .call { callee := .builtin .append, args := #[s, x], argTypes := #[t, t] })
    (i : TypeInfo) (z : Value) (size bytes : Nat) (ht : P.underlying t = some (.slice e)) (hi : P.info? e = some i) (hz : i.zero = some z) (hsize : i.size = size) (hby : i.bytes = bytes) (hzs : z.cells.size = size) (hsz : 0 < size)
    (base : Nat) (v : Value) (n : Nat) (xs : List Value) (hs : a.eval s = v) (hown : w.ownsRow base e size v n xs)
    (pa : Option Addr) (cap m : Nat) (news : List Value) (hx : a.eval x = .slice pa m cap) (hl : news.length = m * size) (hnews : m = 0 ∨ ∃ ad, pa = some ad ∧ ∀ j u, news[j]? = some u → w.cell? (ad.add j) = some u) (h1 : ∀ u ∈ news, u.oneCell' = true)
    (h63 : n + m ≤ maxLen) (hbytes : (n + m) * bytes ≤ 140737488355328) (hbase : base ≤ w.heap.size)
    (h : ∀ v' w', w'.ownsRow base e size v' (n + m) (xs ++ news) → Below base w w' → (∀ b o, b < w.heap.size → v.ownBlock ≠ some b → w'.cell? ⟨b, o, none⟩ = w.cell? ⟨b, o, none⟩ ∧ w'.frozen? ⟨b, o, none⟩ = w.frozen? ⟨b, o, none⟩) → K (a.put o.dst v') w') :
    if Region.wanted o (yielded ops a.tmps) = true then Oper.wp P o a w K Q else E := by
  have hw : Region.wanted o (yielded ops a.tmps) = true := by simp [Region.wanted, hgd]
  rw [if_pos hw]
  exact wp_append_in w s x t e ho i z size bytes ht hi hz hsize hby hzs hsz base v n xs hs hown pa cap m news hx hl hnews h1 h63 hbytes hbase h
end
end Go.Proofs.YtlbagfaiiileoaaDoor
/-
  A world in which one block alone has changed.
-/
namespace Go.Proofs.YtlbagfaiiileoaaDoor
open Go.ChangeShapes Go.WideShapes Go.ChangeAt Go.RowKit Go.Sort
structure OneB (g : Nat) (w w' : World) : Prop where
  os : w'.os = w.os
  tape : w'.tape = w.tape
  output : w'.output = w.output
  size : w'.heap.size = w.heap.size
  block : ∀ k, k ≠ g → w'.heap[k]? = w.heap[k]?
theorem OneB.refl (g : Nat) (w : World) : OneB g w w := ⟨rfl, rfl, rfl, rfl, fun _ _ => rfl⟩
theorem OneB.trans {g : Nat} {w w1 w2 : World} (h : OneB g w w1) (k : OneB g w1 w2) : OneB g w w2 := ⟨k.os.trans h.os, k.tape.trans h.tape, k.output.trans h.output, k.size.trans h.size, fun i hi => (k.block i hi).trans (h.block i hi)⟩
theorem OneB.set (g : Nat) (w : World) (o : Nat) (u : Value) : OneB g w (w.setCell ⟨g, o, none⟩ u) := ⟨rfl, rfl, rfl, by simp [World.setCell], fun k hk => Below.heap_setCell _ _ _ _ hk⟩
theorem OneB.below {g B : Nat} {w w' : World} (h : OneB g w w') (hB : B ≤ g) : Below B w w' := ⟨h.os, h.tape, h.output, Nat.le_of_eq h.size.symm, fun k hk => h.block k (by omega)⟩
theorem OneB.cell {g : Nat} {w w' : World} (h : OneB g w w') {b : Nat} (o : Nat) (hb : b ≠ g) : w'.cell? ⟨b, o, none⟩ = w.cell? ⟨b, o, none⟩ := by
  exact World.cell?_of_block (w := w) (h.block b hb)
theorem OneB.frozen {g : Nat} {w w' : World} (h : OneB g w w') {b : Nat} (o : Nat) (hb : b ≠ g) : w'.frozen? ⟨b, o, none⟩ = w.frozen? ⟨b, o, none⟩ := by
  exact World.frozen?_of_block (w := w) (h.block b hb)
theorem S4.one {g : Nat} {w w' : World} {b : Nat} {v0 v1 v2 v3 : Value} (k : S4 w b v0 v1 v2 v3) (h : OneB g w w') (hb : b ≠ g) : S4 w' b v0 v1 v2 v3 :=
  ⟨by rw [h.cell _ hb]; exact k.c0, by rw [h.cell _ hb]; exact k.c1, by rw [h.cell _ hb]; exact k.c2, by rw [h.cell _ hb]; exact k.c3, fun o => by rw [h.frozen _ hb]; exact k.fr o, by rw [h.size]; exact k.lt⟩
theorem S5.one {g : Nat} {w w' : World} {b : Nat} {v0 v1 v2 v3 v4 : Value} (k : S5 w b v0 v1 v2 v3 v4) (h : OneB g w w') (hb : b ≠ g) : S5 w' b v0 v1 v2 v3 v4 :=
  ⟨by rw [h.cell _ hb]; exact k.c0, by rw [h.cell _ hb]; exact k.c1, by rw [h.cell _ hb]; exact k.c2, by rw [h.cell _ hb]; exact k.c3, by rw [h.cell _ hb]; exact k.c4, fun o => by rw [h.frozen _ hb]; exact k.fr o, by rw [h.size]; exact k.lt⟩
end Go.Proofs.YtlbagfaiiileoaaDoor
/-
  A list in a row of one's own: what is appended; new lists.
-/
namespace Go.Proofs.YtlbagfaiiileoaaDoor
open Go.ChangeShapes Go.WideShapes Go.ChangeAt Go.RowKit Go.Sort
def cellWt (r : Wt) : List Value := [.int .i64 r.wi, .int .i64 r.du]
def wWt (l : List Wt) : List Value := l.flatMap cellWt
theorem wWt_len (l : List Wt) : (wWt l).length = l.length * 2 := by
  induction l with
  | nil => rfl
  | cons r l ih => simp only [wWt, List.flatMap_cons, List.length_append, List.length_cons] at ih ⊢; rw [ih]; simp [cellWt]; omega
theorem wWt_at (l : List Wt) : ∀ (i : Nat) r, l[i]? = some r → (wWt l)[i * 2]? = some (.int .i64 r.wi) ∧ (wWt l)[i * 2 + 1]? = some (.int .i64 r.du) := by
  induction l with
  | nil => intro i r hr; simp at hr
  | cons x l ih =>
    intro i r hr
    have e : wWt (x :: l) = .int .i64 x.wi :: .int .i64 x.du :: wWt l := by simp [wWt, cellWt]
    rw [e]
    cases i with
    | zero => simp at hr; subst hr; simp
    | succ i =>
      have := ih i r (by simpa using hr)
      rw [show (i + 1) * 2 = i * 2 + 2 from by omega]
      simpa using this
theorem wWt_one (l : List Wt) : ∀ u ∈ wWt l, u.oneCell' = true := by
  intro u hu
  simp only [wWt, List.mem_flatMap] at hu
  obtain ⟨r, _, hr⟩ := hu
  simp only [cellWt, List.mem_cons, List.not_mem_nil, or_false] at hr
  rcases hr with rfl | rfl <;> rfl
theorem addWt (b off j : Nat) : (⟨b, off, none⟩ : Addr).add j = ⟨b, off + j, none⟩ := by unfold Addr.add; split <;> simp_all
theorem wWt_in {w : World} {a : Option Addr} {l : List Wt} (h : WtIn w a l) : l.length = 0 ∨ ∃ ad, a = some ad ∧ ∀ j u, (wWt l)[j]? = some u → w.cell? (ad.add j) = some u := by
  rcases h with rfl | ⟨b, off, rfl, h⟩
  · exact .inl rfl
  · refine .inr ⟨_, rfl, fun j u hj => ?_⟩
    rw [addWt]
    have hlt : j < (wWt l).length := (List.getElem?_eq_some_iff.1 hj).1
    rw [wWt_len] at hlt
    obtain ⟨r, hr⟩ : ∃ r, l[j / 2]? = some r := ⟨l[j / 2]'(by omega), List.getElem?_eq_getElem _⟩
    obtain ⟨e0, e1⟩ := wWt_at l (j / 2) r hr
    obtain ⟨c0, c1⟩ := h (j / 2) r hr
    obtain hm | hm : j % 2 = 0 ∨ j % 2 = 1 := by omega
    · have ej : j / 2 * 2 = j := by omega
      rw [ej] at e0 c0
      rw [e0] at hj
      rw [← hj]; exact c0
    · have ej : j / 2 * 2 + 1 = j := by omega
      rw [ej] at e1
      rw [Nat.add_assoc, ej] at c1
      rw [e1] at hj
      rw [← hj]; exact c1
/-- v holds l in a block of its own, from base on. -/
def WtNew (w : World) (base : Nat) (v : Value) (l : List Wt) : Prop := (l = [] ∧ ∃ a c, v = .slice a 0 c) ∨ ∃ g off cap, v = .slice (some ⟨g, off, none⟩) l.length cap ∧ base ≤ g ∧ g < w.heap.size ∧ WtAt w g off l ∧ ∀ o, w.frozen? ⟨g, o, none⟩ = false
theorem WtNew.in {w : World} {base : Nat} {v : Value} {l : List Wt} (h : WtNew w base v l) : ∃ a c, v = .slice a l.length c ∧ WtIn w a l := by
  rcases h with ⟨rfl, a, c, rfl⟩ | ⟨g, off, cap, rfl, _, _, h, _⟩
  · exact ⟨a, c, rfl, .inl rfl⟩
  · exact ⟨_, _, rfl, .inr ⟨g, off, rfl, h⟩⟩
theorem WtNew.keep {w w' : World} {base : Nat} {v : Value} {l : List Wt} (h : WtNew w base v l) (hb : Below w.heap.size w w') : WtNew w' base v l := by
  rcases h with h | ⟨g, off, cap, e, h1, h2, h3, h4⟩
  · exact .inl h
  · exact .inr ⟨g, off, cap, e, h1, Nat.lt_of_lt_of_le h2 hb.size, h3.keep hb, fun o => by rw [hb.frozen (p := ⟨g, o, none⟩) h2]; exact h4 o⟩
theorem WtNew.lower {w : World} {b0 base : Nat} {v : Value} {l : List Wt} (h : WtNew w base v l) (hb : b0 ≤ base) : WtNew w b0 v l := by
  rcases h with h | ⟨g, off, cap, e, h1, h2⟩
  · exact .inl h
  · exact .inr ⟨g, off, cap, e, by omega, h2⟩
theorem WtNew.nil (w : World) (base : Nat) (a : Option Addr) (c : Nat) : WtNew w base (.slice a 0 c) [] := .inl ⟨rfl, a, c, rfl⟩
theorem WtAt.one {g G off : Nat} {w w' : World} {l : List Wt} (h : WtAt w G off l) (k : OneB g w w') (hne : G ≠ g) : WtAt w' G off l := by
  intro i r hr
  obtain ⟨p0, p1⟩ := h i r hr
  exact ⟨by rw [k.cell _ hne]; exact p0, by rw [k.cell _ hne]; exact p1⟩
theorem WtNew.one {g : Nat} {w w' : World} {base : Nat} {v : Value} {l : List Wt} (h : WtNew w base v l) (k : OneB g w w') (hne : ∀ G, v.ownBlock = some G → G ≠ g) : WtNew w' base v l := by
  rcases h with h | ⟨G, off, cap, rfl, h1, h2, h3, h4⟩
  · exact .inl h
  · have hn := hne G rfl
    exact .inr ⟨G, off, cap, rfl, h1, by rw [k.size]; exact h2, h3.one k hn, fun o => by rw [k.frozen _ hn]; exact h4 o⟩
theorem WtNew.spot {w : World} {base : Nat} {a : Option Addr} {n c : Nat} {l : List Wt} (h : WtNew w base (.slice a n c) l) : ∃ g off, base ≤ g ∧ (l = [] ∨ (a = some ⟨g, off, none⟩ ∧ WtAt w g off l ∧ ∀ o, o < off + l.length * 2 → w.frozen? ⟨g, o, none⟩ = false)) ∧ (l = [] ∨ g < w.heap.size) := by
  rcases h with ⟨e, _⟩ | ⟨g, off, cap, e, h1, h2, h3, h4⟩
  · exact ⟨base, 0, Nat.le_refl _, .inl e, .inl e⟩
  · simp only [Value.slice.injEq] at e
    obtain ⟨rfl, rfl, rfl⟩ := e
    exact ⟨g, off, h1, .inr ⟨rfl, h3, fun o _ => h4 o⟩, .inr h2⟩
end Go.Proofs.YtlbagfaiiileoaaDoor
/-
  A new list, marked; held.
-/
namespace Go.Proofs.YtlbagfaiiileoaaDoor
open Go.ChangeShapes Go.WideShapes Go.ChangeAt Go.RowKit Go.Sort
/-- l, marked from k on. -/
def mkdWt : Nat → List Wt → List Wt
  | _, [] => []
  | k, _ :: l => ⟨(k : Int), (k : Int) + 1⟩ :: mkdWt (k + 2) l
theorem mkdWt_len : ∀ (l : List Wt) (k : Nat), (mkdWt k l).length = l.length
  | [], _ => rfl
  | _ :: l, k => by rw [mkdWt, List.length_cons, mkdWt_len l, List.length_cons]
theorem mkdWt_at : ∀ (l : List Wt) (k i : Nat), i < l.length → (mkdWt k l)[i]? = some ⟨((k + i * 2 : Nat) : Int), ((k + i * 2 : Nat) : Int) + 1⟩
  | [], _, _, h => by simp at h
  | x :: l, k, 0, _ => by simp [mkdWt]
  | x :: l, k, i + 1, h => by
    rw [mkdWt, List.getElem?_cons_succ, mkdWt_at l (k + 2) i (by simpa using h), show k + 2 + i * 2 = k + (i + 1) * 2 by omega]
theorem mkdWt_append : ∀ (A B : List Wt) (k : Nat), mkdWt k (A ++ B) = mkdWt k A ++ mkdWt (k + A.length * 2) B
  | [], B, k => by simp [mkdWt]
  | x :: A, B, k => by rw [List.cons_append, mkdWt, mkdWt, List.cons_append, mkdWt_append A B (k + 2), List.length_cons, show k + 2 + A.length * 2 = k + (A.length + 1) * 2 by omega]
/-- The first i of l are marked from k on. -/
theorem WtAt.mark1 {w : World} {g off k i : Nat} {l : List Wt} (h : WtAt w g off (mkdWt k (l.take i) ++ l.drop i)) (hi : i < l.length) :
    WtAt (((w.setCell ⟨g, off + i * 2, none⟩ (.int .i64 (((k + i * 2 : Nat) : Int)))).setCell ⟨g, off + i * 2 + 1, none⟩ (.int .i64 (((k + i * 2 : Nat) : Int) + 1)))) g off (mkdWt k (l.take (i + 1)) ++ l.drop (i + 1)) := by
  have len : (mkdWt k (l.take i) ++ l.drop i).length = l.length := by rw [List.length_append, mkdWt_len, ← List.length_append, List.take_append_drop]
  have lti : (l.take i).length = i := by rw [List.length_take]; omega
  have key : ∀ (q : Nat) r, (mkdWt k (l.take (i + 1)) ++ l.drop (i + 1))[q]? = some r → q = i ∧ r = ⟨((k + i * 2 : Nat) : Int), ((k + i * 2 : Nat) : Int) + 1⟩ ∨ q ≠ i ∧ (mkdWt k (l.take i) ++ l.drop i)[q]? = some r := by
    intro q r hr
    have e1 : l.take (i + 1) = l.take i ++ [l[i]] := List.take_succ_eq_append_getElem hi
    rw [e1, mkdWt_append, lti, List.append_assoc] at hr
    rw [List.drop_eq_getElem_cons hi]
    by_cases h1 : q < i
    · refine .inr ⟨by omega, ?_⟩
      rw [List.getElem?_append_left (by rw [mkdWt_len, lti]; exact h1)] at hr ⊢
      exact hr
    · rw [List.getElem?_append_right (by rw [mkdWt_len, lti]; omega), mkdWt_len, lti] at hr
      by_cases h2 : q = i
      · subst h2
        left
        rw [Nat.sub_self] at hr
        simp only [mkdWt, List.singleton_append, List.getElem?_cons_zero, Option.some.injEq] at hr
        exact ⟨rfl, hr.symm⟩
      · right
        refine ⟨h2, ?_⟩
        rw [List.getElem?_append_right (by rw [mkdWt_len, lti]; omega), mkdWt_len, lti]
        obtain ⟨d, hd⟩ : ∃ d, q - i = d + 1 := ⟨q - i - 1, by omega⟩
        rw [hd] at hr ⊢
        simp [mkdWt] at hr ⊢
        rw [show i + (d + 1) = i + 1 + d by omega]
        exact hr
  have there : ∀ j, j < 2 → ∃ u, w.cell? ⟨g, off + i * 2 + j, none⟩ = some u := by
    intro j hj
    obtain ⟨r, hr⟩ : ∃ r, (mkdWt k (l.take i) ++ l.drop i)[i]? = some r := ⟨_, List.getElem?_eq_getElem (by rw [len]; exact hi)⟩
    obtain ⟨p0, p1⟩ := h i r hr
    match j, hj with
    | 0, _ => exact ⟨_, p0⟩
    | 1, _ => exact ⟨_, p1⟩
  intro q r hr
  rcases key q r hr with ⟨rfl, rfl⟩ | ⟨hq, hr2⟩
  · obtain ⟨u0, g0⟩ : ∃ u, (w).cell? ⟨g, off + q * 2, none⟩ = some u := by
      obtain ⟨u, hu⟩ := there 0 (by omega)
      exact ⟨u, by simpa using hu⟩
    obtain ⟨u1, g1⟩ : ∃ u, ((w.setCell ⟨g, off + q * 2, none⟩ (.int .i64 (((k + q * 2 : Nat) : Int))))).cell? ⟨g, off + q * 2 + 1, none⟩ = some u := by
      obtain ⟨u, hu⟩ := there 1 (by omega)
      refine ⟨u, ?_⟩
      rw [World.cell?_setCell_other _ _ _ _ (offWt_ne (by omega))]
      exact hu
    exact ⟨by rw [World.cell?_setCell_other _ _ _ _ (offWt_ne (by omega))]; exact World.cell?_setCell_same _ _ _ g0, by exact World.cell?_setCell_same _ _ _ g1⟩
  · obtain ⟨p0, p1⟩ := h q r hr2
    exact ⟨by rw [World.cell?_setCell_other _ _ _ _ (offWt_ne (by omega)), World.cell?_setCell_other _ _ _ _ (offWt_ne (by omega))]; exact p0, by rw [World.cell?_setCell_other _ _ _ _ (offWt_ne (by omega)), World.cell?_setCell_other _ _ _ _ (offWt_ne (by omega))]; exact p1⟩
end Go.Proofs.YtlbagfaiiileoaaDoor
/-
  A world in which one block alone has changed, and new ones have come; boxes.
-/
namespace Go.Proofs.YtlbagfaiiileoaaDoor
open Go.ChangeShapes Go.WideShapes Go.ChangeAt Go.RowKit Go.Sort
theorem gwRefl (g : Option Nat) (w : World) : w.grownBy w g := ⟨rfl, rfl, rfl, Nat.le_refl _, fun _ _ _ => rfl⟩
theorem gwTrans {w w1 w2 : World} {g : Option Nat} (h : w.grownBy w1 g) (k : w1.grownBy w2 g) : w.grownBy w2 g :=
  ⟨k.os.trans h.os, k.tape.trans h.tape, k.output.trans h.output, Nat.le_trans h.size k.size, fun i hi hn => (k.block i (Nat.lt_of_lt_of_le hi h.size) hn).trans (h.block i hi hn)⟩
theorem gwBelow {w w' : World} (g : Option Nat) (h : Below w.heap.size w w') : w.grownBy w' g := ⟨h.os, h.tape, h.output, h.size, fun k hk _ => h.block k hk⟩
theorem gwSet (w : World) (g o : Nat) (u : Value) : w.grownBy (w.setCell ⟨g, o, none⟩ u) (some g) := ⟨rfl, rfl, rfl, by simp [World.setCell], fun k _ hn => Below.heap_setCell _ _ _ _ (fun e => hn (by rw [e]))⟩
theorem gwOne {g : Nat} {w w' : World} (h : OneB g w w') : w.grownBy w' (some g) := ⟨h.os, h.tape, h.output, Nat.le_of_eq h.size.symm, fun k _ hn => h.block k (fun e => hn (by rw [e]))⟩
theorem gwTo {w w' : World} {g B : Nat} (h : w.grownBy w' (some g)) (hB : B ≤ g) (hs : B ≤ w.heap.size) : Below B w w' := ⟨h.os, h.tape, h.output, h.size, fun k hk => h.block k (by omega) (by simp; omega)⟩
theorem gwCell {w w' : World} {g : Nat} (h : w.grownBy w' (some g)) {b : Nat} (o : Nat) (hb : b < w.heap.size) (hn : b ≠ g) : w'.cell? ⟨b, o, none⟩ = w.cell? ⟨b, o, none⟩ := World.cell?_of_block (w := w) (h.block b hb (by simp; exact hn))
theorem gwFrozen {w w' : World} {g : Nat} (h : w.grownBy w' (some g)) {b : Nat} (o : Nat) (hb : b < w.heap.size) (hn : b ≠ g) : w'.frozen? ⟨b, o, none⟩ = w.frozen? ⟨b, o, none⟩ := World.frozen?_of_block (w := w) (h.block b hb (by simp; exact hn))
theorem hid11 {p : Prop} (h : p) : Hid p := h
structure D2 (w : World) (b : Nat) (v0 v1 : Value) : Prop where
  c0 : w.cell? ⟨b, 0, none⟩ = some v0
  c1 : w.cell? ⟨b, 1, none⟩ = some v1
  fr : ∀ o, w.frozen? ⟨b, o, none⟩ = false
  lt : b < w.heap.size
section
variable {w w' : World} {b : Nat} {v0 v1 : Value}
theorem D2.keep (k : D2 w b v0 v1) (hb : Below w.heap.size w w') : D2 w' b v0 v1 :=
  ⟨by rw [hb.cell (p := ⟨b, 0, none⟩) k.lt]; exact k.c0, by rw [hb.cell (p := ⟨b, 1, none⟩) k.lt]; exact k.c1, fun o => by rw [hb.frozen (p := ⟨b, o, none⟩) k.lt]; exact k.fr o, Nat.lt_of_lt_of_le k.lt hb.size⟩
theorem D2.low (k : D2 w b v0 v1) {B : Nat} (hb : Below B w w') (h : b < B) : D2 w' b v0 v1 :=
  ⟨by rw [hb.cell (p := ⟨b, 0, none⟩) h]; exact k.c0, by rw [hb.cell (p := ⟨b, 1, none⟩) h]; exact k.c1, fun o => by rw [hb.frozen (p := ⟨b, o, none⟩) h]; exact k.fr o, Nat.lt_of_lt_of_le k.lt hb.size⟩
theorem D2.gw {g : Nat} (k : D2 w b v0 v1) (h : w.grownBy w' (some g)) (hb : b ≠ g) : D2 w' b v0 v1 :=
  ⟨by rw [gwCell h _ k.lt hb]; exact k.c0, by rw [gwCell h _ k.lt hb]; exact k.c1, fun o => by rw [gwFrozen h _ k.lt hb]; exact k.fr o, Nat.lt_of_lt_of_le k.lt h.size⟩
theorem D2.put (k : D2 w b v0 v1) (x0 x1 : Value) : D2 ((w.setCell ⟨b, 0, none⟩ x0).setCell ⟨b, 1, none⟩ x1) b x0 x1 := by
  have ne : ∀ i j : Nat, i ≠ j → (⟨b, i, none⟩ : Addr) ≠ ⟨b, j, none⟩ := fun i j h e => h (congrArg Addr.off e)
  have g0 : (w).cell? ⟨b, 0, none⟩ = some v0 := by exact k.c0
  have g1 : ((w.setCell ⟨b, 0, none⟩ x0)).cell? ⟨b, 1, none⟩ = some v1 := by rw [World.cell?_setCell_other _ _ _ _ (ne _ _ (by decide))]; exact k.c1
  exact ⟨by rw [World.cell?_setCell_other _ _ _ _ (ne _ _ (by decide))]; exact World.cell?_setCell_same _ _ _ g0, by exact World.cell?_setCell_same _ _ _ g1, fun o => by rw [World.frozen?_setCell]; rw [World.frozen?_setCell]; exact k.fr o, by simpa using k.lt⟩
theorem D2.new (w : World) (v0 v1 : Value) (t : TypeId) : D2 (w.alloc (.cells #[v0, v1] t)) w.heap.size v0 v1 := ⟨by simp, by simp, fun o => by simp, by simp⟩
end
structure D3 (w : World) (b : Nat) (v0 v1 v2 : Value) : Prop where
  c0 : w.cell? ⟨b, 0, none⟩ = some v0
  c1 : w.cell? ⟨b, 1, none⟩ = some v1
  c2 : w.cell? ⟨b, 2, none⟩ = some v2
  fr : ∀ o, w.frozen? ⟨b, o, none⟩ = false
  lt : b < w.heap.size
section
variable {w w' : World} {b : Nat} {v0 v1 v2 : Value}
theorem D3.keep (k : D3 w b v0 v1 v2) (hb : Below w.heap.size w w') : D3 w' b v0 v1 v2 :=
  ⟨by rw [hb.cell (p := ⟨b, 0, none⟩) k.lt]; exact k.c0, by rw [hb.cell (p := ⟨b, 1, none⟩) k.lt]; exact k.c1, by rw [hb.cell (p := ⟨b, 2, none⟩) k.lt]; exact k.c2, fun o => by rw [hb.frozen (p := ⟨b, o, none⟩) k.lt]; exact k.fr o, Nat.lt_of_lt_of_le k.lt hb.size⟩
theorem D3.low (k : D3 w b v0 v1 v2) {B : Nat} (hb : Below B w w') (h : b < B) : D3 w' b v0 v1 v2 :=
  ⟨by rw [hb.cell (p := ⟨b, 0, none⟩) h]; exact k.c0, by rw [hb.cell (p := ⟨b, 1, none⟩) h]; exact k.c1, by rw [hb.cell (p := ⟨b, 2, none⟩) h]; exact k.c2, fun o => by rw [hb.frozen (p := ⟨b, o, none⟩) h]; exact k.fr o, Nat.lt_of_lt_of_le k.lt hb.size⟩
theorem D3.gw {g : Nat} (k : D3 w b v0 v1 v2) (h : w.grownBy w' (some g)) (hb : b ≠ g) : D3 w' b v0 v1 v2 :=
  ⟨by rw [gwCell h _ k.lt hb]; exact k.c0, by rw [gwCell h _ k.lt hb]; exact k.c1, by rw [gwCell h _ k.lt hb]; exact k.c2, fun o => by rw [gwFrozen h _ k.lt hb]; exact k.fr o, Nat.lt_of_lt_of_le k.lt h.size⟩
theorem D3.put (k : D3 w b v0 v1 v2) (x0 x1 x2 : Value) : D3 (((w.setCell ⟨b, 0, none⟩ x0).setCell ⟨b, 1, none⟩ x1).setCell ⟨b, 2, none⟩ x2) b x0 x1 x2 := by
  have ne : ∀ i j : Nat, i ≠ j → (⟨b, i, none⟩ : Addr) ≠ ⟨b, j, none⟩ := fun i j h e => h (congrArg Addr.off e)
  have g0 : (w).cell? ⟨b, 0, none⟩ = some v0 := by exact k.c0
  have g1 : ((w.setCell ⟨b, 0, none⟩ x0)).cell? ⟨b, 1, none⟩ = some v1 := by rw [World.cell?_setCell_other _ _ _ _ (ne _ _ (by decide))]; exact k.c1
  have g2 : (((w.setCell ⟨b, 0, none⟩ x0).setCell ⟨b, 1, none⟩ x1)).cell? ⟨b, 2, none⟩ = some v2 := by rw [World.cell?_setCell_other _ _ _ _ (ne _ _ (by decide))]; rw [World.cell?_setCell_other _ _ _ _ (ne _ _ (by decide))]; exact k.c2
  exact ⟨by rw [World.cell?_setCell_other _ _ _ _ (ne _ _ (by decide))]; rw [World.cell?_setCell_other _ _ _ _ (ne _ _ (by decide))]; exact World.cell?_setCell_same _ _ _ g0, by rw [World.cell?_setCell_other _ _ _ _ (ne _ _ (by decide))]; exact World.cell?_setCell_same _ _ _ g1, by exact World.cell?_setCell_same _ _ _ g2, fun o => by rw [World.frozen?_setCell]; rw [World.frozen?_setCell]; rw [World.frozen?_setCell]; exact k.fr o, by simpa using k.lt⟩
theorem D3.new (w : World) (v0 v1 v2 : Value) (t : TypeId) : D3 (w.alloc (.cells #[v0, v1, v2] t)) w.heap.size v0 v1 v2 := ⟨by simp, by simp, by simp, fun o => by simp, by simp⟩
end
structure D4 (w : World) (b : Nat) (v0 v1 v2 v3 : Value) : Prop where
  c0 : w.cell? ⟨b, 0, none⟩ = some v0
  c1 : w.cell? ⟨b, 1, none⟩ = some v1
  c2 : w.cell? ⟨b, 2, none⟩ = some v2
  c3 : w.cell? ⟨b, 3, none⟩ = some v3
  fr : ∀ o, w.frozen? ⟨b, o, none⟩ = false
  lt : b < w.heap.size
section
variable {w w' : World} {b : Nat} {v0 v1 v2 v3 : Value}
theorem D4.keep (k : D4 w b v0 v1 v2 v3) (hb : Below w.heap.size w w') : D4 w' b v0 v1 v2 v3 :=
  ⟨by rw [hb.cell (p := ⟨b, 0, none⟩) k.lt]; exact k.c0, by rw [hb.cell (p := ⟨b, 1, none⟩) k.lt]; exact k.c1, by rw [hb.cell (p := ⟨b, 2, none⟩) k.lt]; exact k.c2, by rw [hb.cell (p := ⟨b, 3, none⟩) k.lt]; exact k.c3, fun o => by rw [hb.frozen (p := ⟨b, o, none⟩) k.lt]; exact k.fr o, Nat.lt_of_lt_of_le k.lt hb.size⟩
theorem D4.low (k : D4 w b v0 v1 v2 v3) {B : Nat} (hb : Below B w w') (h : b < B) : D4 w' b v0 v1 v2 v3 :=
  ⟨by rw [hb.cell (p := ⟨b, 0, none⟩) h]; exact k.c0, by rw [hb.cell (p := ⟨b, 1, none⟩) h]; exact k.c1, by rw [hb.cell (p := ⟨b, 2, none⟩) h]; exact k.c2, by rw [hb.cell (p := ⟨b, 3, none⟩) h]; exact k.c3, fun o => by rw [hb.frozen (p := ⟨b, o, none⟩) h]; exact k.fr o, Nat.lt_of_lt_of_le k.lt hb.size⟩
theorem D4.gw {g : Nat} (k : D4 w b v0 v1 v2 v3) (h : w.grownBy w' (some g)) (hb : b ≠ g) : D4 w' b v0 v1 v2 v3 :=
  ⟨by rw [gwCell h _ k.lt hb]; exact k.c0, by rw [gwCell h _ k.lt hb]; exact k.c1, by rw [gwCell h _ k.lt hb]; exact k.c2, by rw [gwCell h _ k.lt hb]; exact k.c3, fun o => by rw [gwFrozen h _ k.lt hb]; exact k.fr o, Nat.lt_of_lt_of_le k.lt h.size⟩
theorem D4.put (k : D4 w b v0 v1 v2 v3) (x0 x1 x2 x3 : Value) : D4 ((((w.setCell ⟨b, 0, none⟩ x0).setCell ⟨b, 1, none⟩ x1).setCell ⟨b, 2, none⟩ x2).setCell ⟨b, 3, none⟩ x3) b x0 x1 x2 x3 := by
  have ne : ∀ i j : Nat, i ≠ j → (⟨b, i, none⟩ : Addr) ≠ ⟨b, j, none⟩ := fun i j h e => h (congrArg Addr.off e)
  have g0 : (w).cell? ⟨b, 0, none⟩ = some v0 := by exact k.c0
  have g1 : ((w.setCell ⟨b, 0, none⟩ x0)).cell? ⟨b, 1, none⟩ = some v1 := by rw [World.cell?_setCell_other _ _ _ _ (ne _ _ (by decide))]; exact k.c1
  have g2 : (((w.setCell ⟨b, 0, none⟩ x0).setCell ⟨b, 1, none⟩ x1)).cell? ⟨b, 2, none⟩ = some v2 := by rw [World.cell?_setCell_other _ _ _ _ (ne _ _ (by decide))]; rw [World.cell?_setCell_other _ _ _ _ (ne _ _ (by decide))]; exact k.c2
  have g3 : ((((w.setCell ⟨b, 0, none⟩ x0).setCell ⟨b, 1, none⟩ x1).setCell ⟨b, 2, none⟩ x2)).cell? ⟨b, 3, none⟩ = some v3 := by rw [World.cell?_setCell_other _ _ _ _ (ne _ _ (by decide))]; rw [World.cell?_setCell_other _ _ _ _ (ne _ _ (by decide))]; rw [World.cell?_setCell_other _ _ _ _ (ne _ _ (by decide))]; exact k.c3
  exact ⟨by rw [World.cell?_setCell_other _ _ _ _ (ne _ _ (by decide))]; rw [World.cell?_setCell_other _ _ _ _ (ne _ _ (by decide))]; rw [World.cell?_setCell_other _ _ _ _ (ne _ _ (by decide))]; exact World.cell?_setCell_same _ _ _ g0, by rw [World.cell?_setCell_other _ _ _ _ (ne _ _ (by decide))]; rw [World.cell?_setCell_other _ _ _ _ (ne _ _ (by decide))]; exact World.cell?_setCell_same _ _ _ g1, by rw [World.cell?_setCell_other _ _ _ _ (ne _ _ (by decide))]; exact World.cell?_setCell_same _ _ _ g2, by exact World.cell?_setCell_same _ _ _ g3, fun o => by rw [World.frozen?_setCell]; rw [World.frozen?_setCell]; rw [World.frozen?_setCell]; rw [World.frozen?_setCell]; exact k.fr o, by simpa using k.lt⟩
theorem D4.new (w : World) (v0 v1 v2 v3 : Value) (t : TypeId) : D4 (w.alloc (.cells #[v0, v1, v2, v3] t)) w.heap.size v0 v1 v2 v3 := ⟨by simp, by simp, by simp, by simp, fun o => by simp, by simp⟩
end
theorem WtNew.gw {g : Nat} {w w' : World} {base : Nat} {v : Value} {l : List Wt} (h : WtNew w base v l) (k : w.grownBy w' (some g)) (hne : ∀ G, v.ownBlock = some G → G ≠ g) : WtNew w' base v l := by
  rcases h with h | ⟨G, off, cap, rfl, h1, h2, h3, h4⟩
  · exact .inl h
  · have hn := hne G rfl
    refine .inr ⟨G, off, cap, rfl, h1, Nat.lt_of_lt_of_le h2 k.size, fun i r hr => ?_, fun o => by rw [gwFrozen k _ h2 hn]; exact h4 o⟩
    obtain ⟨p0, p1⟩ := h3 i r hr
    exact ⟨by rw [gwCell k _ h2 hn]; exact p0, by rw [gwCell k _ h2 hn]; exact p1⟩
theorem WtNew.gw2 {g : Nat} {w w' : World} {base : Nat} {v : Value} {l : List Wt} (h : WtNew w base v l) (k : w.grownBy w' (some g)) (hne : g < base) : WtNew w' base v l := by
  rcases h with h | ⟨G, off, cap, rfl, h1, h2, h3, h4⟩
  · exact .inl h
  · exact WtNew.gw (.inr ⟨G, off, cap, rfl, h1, h2, h3, h4⟩) k (fun G' hG => by simp only [Value.ownBlock, Option.some.injEq] at hG; omega)
theorem WtIn.gw {g : Nat} {w w' : World} {a : Option Addr} {l : List Wt} (h : WtIn w a l) (k : w.grownBy w' (some g)) (hne : ∀ A, a = some A → A.block ≠ g) : WtIn w' a l := by
  rcases h with h | ⟨b, off, rfl, h3⟩
  · exact .inl h
  · have hn := hne _ rfl
    refine .inr ⟨b, off, rfl, fun i r hr => ?_⟩
    obtain ⟨p0, p1⟩ := h3 i r hr
    have h2 := block_lt_of_cell p0
    exact ⟨by rw [gwCell k _ h2 hn]; exact p0, by rw [gwCell k _ h2 hn]; exact p1⟩
end Go.Proofs.YtlbagfaiiileoaaDoor
/-
  LanesFault, on both sides; a copy of lanes.
-/
namespace Go.Proofs.YtlbagfaiiileoaaDoor
open Go.ChangeShapes Go.WideShapes Go.ChangeAt Go.RowKit Go.Sort
def lanesB (s c t : Int) : Bool := inW 1 8 s && inW 0 8 c && inW 0 1000000 t
def lanesC (s c t : Int) : Int := if lanesB s c t = true then 0 else 3
theorem lanesC_ok {s c t : Int} (h : lanesB s c t = true) : lanesC s c t = 0 := by rw [lanesC, if_pos h]
theorem lanesC_bad {s c t : Int} (h : lanesB s c t = false) : lanesC s c t = 3 := by rw [lanesC, if_neg (by rw [h]; decide)]
theorem lanesB_of {s c t : Int} (h : lanesB s c t = true) : (1 ≤ s ∧ s ≤ 8) ∧ (0 ≤ c ∧ c ≤ 8) ∧ (0 ≤ t ∧ t ≤ 1000000) := by
  simp only [lanesB, Bool.and_eq_true] at h
  exact ⟨inW_of h.1.1, inW_of h.1.2, inW_of h.2⟩
theorem inW_time (x : Int) : inW 0 1000000000000000 x = timeB x := rfl
set_option maxHeartbeats 4000000 in
theorem specLanes_any (s c t : Int) (w : World) :
    Calls Tryd.prog 14 #[.agg #[.int .i64 s, .int .i64 c, .int .i64 t]] w fun r w' => r = .returned (.int .i64 (lanesC s c t)) ∧ Below w.heap.size w w' := by
  have HT : Hid (∀ x lo hi w, Calls Tryd.prog 11 #[.int .i64 x, .int .i64 lo, .int .i64 hi] w fun r w' => r = .returned (.bool (inW lo hi x)) ∧ w' = w) := l1In_w
  have HB : Hid (Below w.heap.size w (w.alloc (.cells #[.int .i64 s, .int .i64 c, .int .i64 t] 31))) := (Below.refl _ _).alloc (Nat.le_refl _) _
  cases h0 : inW 1 8 s
  · rw [lanesC_bad (by simp [lanesB, h0])]
    go_enter Tryd.func14, Tryd.ntmps14
    go_wp2_with fail
    refine (HT.out s 1 8 _).mono ?_
    rintro r w1 ⟨rfl, rfl⟩
    rw [h0]
    go_wp2_with fail
    go_ret
    exact ⟨rfl, HB.out⟩
  cases h1 : inW 0 8 c
  · rw [lanesC_bad (by simp [lanesB, h1])]
    go_enter Tryd.func14, Tryd.ntmps14
    go_wp2_with fail
    refine (HT.out s 1 8 _).mono ?_
    rintro r w1 ⟨rfl, rfl⟩
    rw [h0]
    go_wp2_with fail
    refine (HT.out c 0 8 _).mono ?_
    rintro r w1 ⟨rfl, rfl⟩
    rw [h1]
    go_wp2_with fail
    go_ret
    exact ⟨rfl, HB.out⟩
  cases h2 : inW 0 1000000 t
  · rw [lanesC_bad (by simp [lanesB, h2])]
    go_enter Tryd.func14, Tryd.ntmps14
    go_wp2_with fail
    refine (HT.out s 1 8 _).mono ?_
    rintro r w1 ⟨rfl, rfl⟩
    rw [h0]
    go_wp2_with fail
    refine (HT.out c 0 8 _).mono ?_
    rintro r w1 ⟨rfl, rfl⟩
    rw [h1]
    go_wp2_with fail
    refine (HT.out t 0 1000000 _).mono ?_
    rintro r w1 ⟨rfl, rfl⟩
    rw [h2]
    go_wp2_with fail
    go_ret
    exact ⟨rfl, HB.out⟩
  · rw [lanesC_ok (by simp [lanesB, h0, h1, h2])]
    go_enter Tryd.func14, Tryd.ntmps14
    go_wp2_with fail
    refine (HT.out s 1 8 _).mono ?_
    rintro r w1 ⟨rfl, rfl⟩
    rw [h0]
    go_wp2_with fail
    refine (HT.out c 0 8 _).mono ?_
    rintro r w1 ⟨rfl, rfl⟩
    rw [h1]
    go_wp2_with fail
    refine (HT.out t 0 1000000 _).mono ?_
    rintro r w1 ⟨rfl, rfl⟩
    rw [h2]
    go_wp2_with fail
    go_ret
    exact ⟨rfl, HB.out⟩
set_option maxHeartbeats 4000000 in
theorem implLanes_any (s c t : Int) (w : World) :
    Calls Tryd.prog 22 #[.agg #[.int .i64 s, .int .i64 c, .int .i64 t]] w fun r w' => r = .returned (.int .i64 (lanesC s c t)) ∧ Below w.heap.size w w' := by
  have HT : Hid (∀ x lo hi w, Calls Tryd.prog 30 #[.int .i64 x, .int .i64 lo, .int .i64 hi] w fun r w' => r = .returned (.bool (inW lo hi x)) ∧ w' = w) := isWithin_all
  have HB : Hid (Below w.heap.size w (w.alloc (.cells #[.int .i64 s, .int .i64 c, .int .i64 t] 31))) := (Below.refl _ _).alloc (Nat.le_refl _) _
  cases h0 : inW 1 8 s
  · rw [lanesC_bad (by simp [lanesB, h0])]
    go_enter Tryd.func22, Tryd.ntmps22
    go_wp2_with fail
    refine (HT.out s 1 8 _).mono ?_
    rintro r w1 ⟨rfl, rfl⟩
    rw [h0]
    go_wp2_with fail
    go_ret
    exact ⟨rfl, HB.out⟩
  cases h1 : inW 0 8 c
  · rw [lanesC_bad (by simp [lanesB, h1])]
    go_enter Tryd.func22, Tryd.ntmps22
    go_wp2_with fail
    refine (HT.out s 1 8 _).mono ?_
    rintro r w1 ⟨rfl, rfl⟩
    rw [h0]
    go_wp2_with fail
    refine (HT.out c 0 8 _).mono ?_
    rintro r w1 ⟨rfl, rfl⟩
    rw [h1]
    go_wp2_with fail
    go_ret
    exact ⟨rfl, HB.out⟩
  cases h2 : inW 0 1000000 t
  · rw [lanesC_bad (by simp [lanesB, h2])]
    go_enter Tryd.func22, Tryd.ntmps22
    go_wp2_with fail
    refine (HT.out s 1 8 _).mono ?_
    rintro r w1 ⟨rfl, rfl⟩
    rw [h0]
    go_wp2_with fail
    refine (HT.out c 0 8 _).mono ?_
    rintro r w1 ⟨rfl, rfl⟩
    rw [h1]
    go_wp2_with fail
    refine (HT.out t 0 1000000 _).mono ?_
    rintro r w1 ⟨rfl, rfl⟩
    rw [h2]
    go_wp2_with fail
    go_ret
    exact ⟨rfl, HB.out⟩
  · rw [lanesC_ok (by simp [lanesB, h0, h1, h2])]
    go_enter Tryd.func22, Tryd.ntmps22
    go_wp2_with fail
    refine (HT.out s 1 8 _).mono ?_
    rintro r w1 ⟨rfl, rfl⟩
    rw [h0]
    go_wp2_with fail
    refine (HT.out c 0 8 _).mono ?_
    rintro r w1 ⟨rfl, rfl⟩
    rw [h1]
    go_wp2_with fail
    refine (HT.out t 0 1000000 _).mono ?_
    rintro r w1 ⟨rfl, rfl⟩
    rw [h2]
    go_wp2_with fail
    go_ret
    exact ⟨rfl, HB.out⟩
set_option maxHeartbeats 1000000 in
theorem toLanes_any (s c t : Int) (w : World) :
    Calls Tryd.prog 17 #[.agg #[.int .i64 s, .int .i64 c, .int .i64 t]] w fun r w' => r = .returned (.agg #[.int .i64 s, .int .i64 c, .int .i64 t]) ∧ Below w.heap.size w w' := by
  go_enter Tryd.func17, Tryd.ntmps17
  go_wp2
  exact bodyPost_ret (v := .agg #[.int .i64 s, .int .i64 c, .int .i64 t]) (by simp [results, Tryd.results17, go_sem]) rfl ⟨rfl, (((Below.refl w.heap.size w).alloc (Nat.le_refl _) _).alloc (by simp) _).alloc (by simp; omega) _⟩
end Go.Proofs.YtlbagfaiiileoaaDoor
/-
  A config as an argument of laws.
-/
namespace Go.Proofs.YtlbagfaiiileoaaDoor
open Go.ChangeShapes Go.WideShapes Go.ChangeAt Go.RowKit Go.Sort
theorem sizeConfig : (Tryd.prog.info? 34).map (·.size) = some 17 := by kernel_rfl
set_option maxRecDepth 100000 in
set_option maxHeartbeats 8000000 in
theorem to_Config (w : World) (cb cg co cn ce cf ct cc : Int) (na : Option Addr) (nc : Nat) (ns : List ByteArray) (ls lc lt : Int) (r1 r2 r3 r4 r5 : Int) (C8 : Nat → Nat → Nat → World → Prop) (H0 : Hid (∀ X, Below w.heap.size w X → Calls Tryd.prog 16 #[.slice na ns.length nc] X fun e w' => (∃ (G : Nat), e = .returned (.slice (some ⟨G, 0, none⟩) ns.length ns.length) ∧ At X.heap.size w'.heap.size (C8 G) w') ∧ Below X.heap.size X w'))
    (H1 : Hid (∀ X, Below w.heap.size w X → Calls Tryd.prog 17 #[.agg #[.int .i64 ls, .int .i64 lc, .int .i64 lt]] X fun e w' => e = .returned (.agg #[.int .i64 ls, .int .i64 lc, .int .i64 lt]) ∧ Below X.heap.size X w'))
    (H2 : Hid (∀ X, Below w.heap.size w X → Calls Tryd.prog 18 #[.agg #[.int .i64 r1, .int .i64 r2, .int .i64 r3, .int .i64 r4, .int .i64 r5]] X fun e w' => e = .returned (.agg #[.int .i64 r1, .int .i64 r2, .int .i64 r3, .int .i64 r4, .int .i64 r5]) ∧ Below X.heap.size X w')) :
    Calls Tryd.prog 6 #[.agg #[.int .i64 cb, .int .i64 cg, .int .i64 co, .int .i64 cn, .int .i64 ce, .int .i64 cf, .int .i64 ct, .int .i64 cc, .slice na ns.length nc, .int .i64 ls, .int .i64 lc, .int .i64 lt, .int .i64 r1, .int .i64 r2, .int .i64 r3, .int .i64 r4, .int .i64 r5]] w fun e w' => (∃ (G : Nat), e = .returned (.agg #[.int .i64 cb, .int .i64 cg, .int .i64 co, .int .i64 cn, .int .i64 ce, .int .i64 cf, .int .i64 ct, .int .i64 cc, .slice (some ⟨G, 0, none⟩) ns.length ns.length, .int .i64 ls, .int .i64 lc, .int .i64 lt, .int .i64 r1, .int .i64 r2, .int .i64 r3, .int .i64 r4, .int .i64 r5]) ∧ At w.heap.size w'.heap.size (Wide (C8 G)) w') ∧ Below w.heap.size w w' := by
  obtain ⟨W, hW⟩ : ∃ W, W = ((w.alloc (.cells #[.int .i64 cb, .int .i64 cg, .int .i64 co, .int .i64 cn, .int .i64 ce, .int .i64 cf, .int .i64 ct, .int .i64 cc, .slice na ns.length nc, .int .i64 ls, .int .i64 lc, .int .i64 lt, .int .i64 r1, .int .i64 r2, .int .i64 r3, .int .i64 r4, .int .i64 r5] 28)).alloc (.cells #[.int .i64 0, .int .i64 0, .int .i64 0, .int .i64 0, .int .i64 0, .int .i64 0, .int .i64 0, .int .i64 0, .slice none 0 0, .int .i64 0, .int .i64 0, .int .i64 0, .int .i64 0, .int .i64 0, .int .i64 0, .int .i64 0, .int .i64 0] 34)).alloc (.cells #[.int .i64 cb, .int .i64 cg, .int .i64 co, .int .i64 cn, .int .i64 ce, .int .i64 cf, .int .i64 ct, .int .i64 cc, .slice none 0 0, .int .i64 0, .int .i64 0, .int .i64 0, .int .i64 0, .int .i64 0, .int .i64 0, .int .i64 0, .int .i64 0] 34) := ⟨_, rfl⟩
  have HW : Hid (W = ((w.alloc (.cells #[.int .i64 cb, .int .i64 cg, .int .i64 co, .int .i64 cn, .int .i64 ce, .int .i64 cf, .int .i64 ct, .int .i64 cc, .slice na ns.length nc, .int .i64 ls, .int .i64 lc, .int .i64 lt, .int .i64 r1, .int .i64 r2, .int .i64 r3, .int .i64 r4, .int .i64 r5] 28)).alloc (.cells #[.int .i64 0, .int .i64 0, .int .i64 0, .int .i64 0, .int .i64 0, .int .i64 0, .int .i64 0, .int .i64 0, .slice none 0 0, .int .i64 0, .int .i64 0, .int .i64 0, .int .i64 0, .int .i64 0, .int .i64 0, .int .i64 0, .int .i64 0] 34)).alloc (.cells #[.int .i64 cb, .int .i64 cg, .int .i64 co, .int .i64 cn, .int .i64 ce, .int .i64 cf, .int .i64 ct, .int .i64 cc, .slice none 0 0, .int .i64 0, .int .i64 0, .int .i64 0, .int .i64 0, .int .i64 0, .int .i64 0, .int .i64 0, .int .i64 0] 34)) := hW
  have KW : Hid (Below w.heap.size w W) := by rw [hW]; exact (((Below.refl _ _).alloc (Nat.le_refl _) _).alloc (by simp) _).alloc (by simp; omega) _
  have A0 : Hid (At w.heap.size (w.heap.size + 1) (Bx w.heap.size [.int .i64 cb, .int .i64 cg, .int .i64 co, .int .i64 cn, .int .i64 ce, .int .i64 cf, .int .i64 ct, .int .i64 cc, .slice na ns.length nc, .int .i64 ls, .int .i64 lc, .int .i64 lt, .int .i64 r1, .int .i64 r2, .int .i64 r3, .int .i64 r4, .int .i64 r5]) W) := by rw [hW]; exact ((Bx.new _ [.int .i64 cb, .int .i64 cg, .int .i64 co, .int .i64 cn, .int .i64 ce, .int .i64 cf, .int .i64 ct, .int .i64 cc, .slice na ns.length nc, .int .i64 ls, .int .i64 lc, .int .i64 lt, .int .i64 r1, .int .i64 r2, .int .i64 r3, .int .i64 r4, .int .i64 r5] _).al _).al _
  have A1 : Hid (At (w.heap.size + 1) (w.heap.size + 1 + 1) (Bx (w.heap.size + 1) [.int .i64 0, .int .i64 0, .int .i64 0, .int .i64 0, .int .i64 0, .int .i64 0, .int .i64 0, .int .i64 0, .slice none 0 0, .int .i64 0, .int .i64 0, .int .i64 0, .int .i64 0, .int .i64 0, .int .i64 0, .int .i64 0, .int .i64 0]) W) := by rw [hW]; exact (Bx.newAt (by simp) [.int .i64 0, .int .i64 0, .int .i64 0, .int .i64 0, .int .i64 0, .int .i64 0, .int .i64 0, .int .i64 0, .slice none 0 0, .int .i64 0, .int .i64 0, .int .i64 0, .int .i64 0, .int .i64 0, .int .i64 0, .int .i64 0, .int .i64 0] _).al _
  have A2 : Hid (At (w.heap.size + 2) (w.heap.size + 2 + 1) (Bx (w.heap.size + 2) [.int .i64 cb, .int .i64 cg, .int .i64 co, .int .i64 cn, .int .i64 ce, .int .i64 cf, .int .i64 ct, .int .i64 cc, .slice none 0 0, .int .i64 0, .int .i64 0, .int .i64 0, .int .i64 0, .int .i64 0, .int .i64 0, .int .i64 0, .int .i64 0]) W) := by rw [hW]; exact Bx.newAt (by simp) [.int .i64 cb, .int .i64 cg, .int .i64 co, .int .i64 cn, .int .i64 ce, .int .i64 cf, .int .i64 ct, .int .i64 cc, .slice none 0 0, .int .i64 0, .int .i64 0, .int .i64 0, .int .i64 0, .int .i64 0, .int .i64 0, .int .i64 0, .int .i64 0] _
  have SW : Hid (w.heap.size + 3 ≤ W.heap.size) := by rw [hW]; show _ ≤ _; simp
  clear hW
  go_enter Tryd.func6, Tryd.ntmps6
  go_wp2_with fail
  rw [← HW.out]
  clear HW
  refine (H0.out W KW.out).mono ?_
  rintro e0 w1 ⟨⟨G, rfl, c⟩, hb⟩
  have Kw1 : Hid (Below w.heap.size w w1) := KW.out.trans (hb.mono KW.out.size)
  have A0w1 : Hid (At w.heap.size (w.heap.size + 1) (Bx w.heap.size [.int .i64 cb, .int .i64 cg, .int .i64 co, .int .i64 cn, .int .i64 ce, .int .i64 cf, .int .i64 ct, .int .i64 cc, .slice na ns.length nc, .int .i64 ls, .int .i64 lc, .int .i64 lt, .int .i64 r1, .int .i64 r2, .int .i64 r3, .int .i64 r4, .int .i64 r5]) w1) := A0.out.keep hb
  have A1w1 : Hid (At (w.heap.size + 1) ((w.heap.size + 1) + 1) (Bx (w.heap.size + 1) [.int .i64 0, .int .i64 0, .int .i64 0, .int .i64 0, .int .i64 0, .int .i64 0, .int .i64 0, .int .i64 0, .slice none 0 0, .int .i64 0, .int .i64 0, .int .i64 0, .int .i64 0, .int .i64 0, .int .i64 0, .int .i64 0, .int .i64 0]) w1) := A1.out.keep hb
  have A2w1 : Hid (At (w.heap.size + 2) ((w.heap.size + 2) + 1) (Bx (w.heap.size + 2) [.int .i64 cb, .int .i64 cg, .int .i64 co, .int .i64 cn, .int .i64 ce, .int .i64 cf, .int .i64 ct, .int .i64 cc, .slice none 0 0, .int .i64 0, .int .i64 0, .int .i64 0, .int .i64 0, .int .i64 0, .int .i64 0, .int .i64 0, .int .i64 0]) w1) := A2.out.keep hb
  obtain ⟨l0, hl0⟩ : ∃ n, W.heap.size = n := ⟨_, rfl⟩
  obtain ⟨h0, hh0⟩ : ∃ n, w1.heap.size = n := ⟨_, rfl⟩
  have B0 : Hid (At l0 h0 (C8 G) w1) := by rw [← hl0, ← hh0]; exact c
  have O0 : Hid (w.heap.size + 3 ≤ l0 ∧ l0 ≤ h0) := ⟨by rw [← hl0]; have := A2.out.le; omega, by rw [← hl0, ← hh0]; exact hb.size⟩
  clear c hl0 hh0
  clear hb KW A0 A1 A2  H0
  have g9 := A0w1.out.val.1 9 _ rfl
  have g10 := A0w1.out.val.1 10 _ rfl
  have g11 := A0w1.out.val.1 11 _ rfl
  obtain ⟨V1, hV1⟩ : ∃ V, V = (w1.setCell ⟨w.heap.size + 2, 8, none⟩ (.slice (some ⟨G, 0, none⟩) ns.length ns.length)) := ⟨_, rfl⟩
  have HV1 : Hid (V1 = (w1.setCell ⟨w.heap.size + 2, 8, none⟩ (.slice (some ⟨G, 0, none⟩) ns.length ns.length))) := hV1
  have KV1 : Hid (Below w.heap.size w V1) := by rw [hV1]; exact (Kw1.out.setCell (by simp only; omega) _)
  have A0V1 : Hid (At w.heap.size (w.heap.size + 1) (Bx w.heap.size [.int .i64 cb, .int .i64 cg, .int .i64 co, .int .i64 cn, .int .i64 ce, .int .i64 cf, .int .i64 ct, .int .i64 cc, .slice na ns.length nc, .int .i64 ls, .int .i64 lc, .int .i64 lt, .int .i64 r1, .int .i64 r2, .int .i64 r3, .int .i64 r4, .int .i64 r5]) V1) := by rw [hV1]; exact (A0w1.out.set _ (by omega))
  have A1V1 : Hid (At (w.heap.size + 1) ((w.heap.size + 1) + 1) (Bx (w.heap.size + 1) [.int .i64 0, .int .i64 0, .int .i64 0, .int .i64 0, .int .i64 0, .int .i64 0, .int .i64 0, .int .i64 0, .slice none 0 0, .int .i64 0, .int .i64 0, .int .i64 0, .int .i64 0, .int .i64 0, .int .i64 0, .int .i64 0, .int .i64 0]) V1) := by rw [hV1]; exact (A1w1.out.set _ (by omega))
  have A2V1 : Hid (At (w.heap.size + 2) (w.heap.size + 2 + 1) (Bx (w.heap.size + 2) [.int .i64 cb, .int .i64 cg, .int .i64 co, .int .i64 cn, .int .i64 ce, .int .i64 cf, .int .i64 ct, .int .i64 cc, .slice (some ⟨G, 0, none⟩) ns.length ns.length, .int .i64 0, .int .i64 0, .int .i64 0, .int .i64 0, .int .i64 0, .int .i64 0, .int .i64 0, .int .i64 0]) V1) := by rw [hV1]; exact (Bx.put A2w1.out 8 (.slice (some ⟨G, 0, none⟩) ns.length ns.length) (by simp))
  have B0V1 : Hid (At l0 h0 (C8 G) V1) := by rw [hV1]; exact (B0.out.set _ (.inl (by have := O0.out; omega)))
  have a8_V1 := A2w1.out.val.1 8 _ rfl
  have af_V1 := A2w1.out.val.2
  have af8_V1 := af_V1 8
  clear af_V1
  clear hV1 Kw1 A0w1 A1w1 A2w1 B0
  go_wp2_with fail
  rw [← HV1.out]
  clear a8_V1 af8_V1 g9 g10 g11 HV1
  refine (H1.out V1 KV1.out).mono ?_
  rintro e0 w2 ⟨rfl, hb⟩
  have Kw2 : Hid (Below w.heap.size w w2) := KV1.out.trans (hb.mono KV1.out.size)
  have A0w2 : Hid (At w.heap.size (w.heap.size + 1) (Bx w.heap.size [.int .i64 cb, .int .i64 cg, .int .i64 co, .int .i64 cn, .int .i64 ce, .int .i64 cf, .int .i64 ct, .int .i64 cc, .slice na ns.length nc, .int .i64 ls, .int .i64 lc, .int .i64 lt, .int .i64 r1, .int .i64 r2, .int .i64 r3, .int .i64 r4, .int .i64 r5]) w2) := A0V1.out.keep hb
  have A1w2 : Hid (At (w.heap.size + 1) ((w.heap.size + 1) + 1) (Bx (w.heap.size + 1) [.int .i64 0, .int .i64 0, .int .i64 0, .int .i64 0, .int .i64 0, .int .i64 0, .int .i64 0, .int .i64 0, .slice none 0 0, .int .i64 0, .int .i64 0, .int .i64 0, .int .i64 0, .int .i64 0, .int .i64 0, .int .i64 0, .int .i64 0]) w2) := A1V1.out.keep hb
  have A2w2 : Hid (At (w.heap.size + 2) ((w.heap.size + 2) + 1) (Bx (w.heap.size + 2) [.int .i64 cb, .int .i64 cg, .int .i64 co, .int .i64 cn, .int .i64 ce, .int .i64 cf, .int .i64 ct, .int .i64 cc, .slice (some ⟨G, 0, none⟩) ns.length ns.length, .int .i64 0, .int .i64 0, .int .i64 0, .int .i64 0, .int .i64 0, .int .i64 0, .int .i64 0, .int .i64 0]) w2) := A2V1.out.keep hb
  have B0V1w2 : Hid (At l0 h0 (C8 G) w2) := B0V1.out.keep hb
  clear hb KV1 A0V1 A1V1 A2V1 B0V1 H1
  have g12 := A0w2.out.val.1 12 _ rfl
  have g13 := A0w2.out.val.1 13 _ rfl
  have g14 := A0w2.out.val.1 14 _ rfl
  have g15 := A0w2.out.val.1 15 _ rfl
  have g16 := A0w2.out.val.1 16 _ rfl
  obtain ⟨V2, hV2⟩ : ∃ V, V = (((w2.setCell ⟨w.heap.size + 2, 9, none⟩ (.int .i64 ls)).setCell ⟨w.heap.size + 2, 10, none⟩ (.int .i64 lc)).setCell ⟨w.heap.size + 2, 11, none⟩ (.int .i64 lt)) := ⟨_, rfl⟩
  have HV2 : Hid (V2 = (((w2.setCell ⟨w.heap.size + 2, 9, none⟩ (.int .i64 ls)).setCell ⟨w.heap.size + 2, 10, none⟩ (.int .i64 lc)).setCell ⟨w.heap.size + 2, 11, none⟩ (.int .i64 lt))) := hV2
  have KV2 : Hid (Below w.heap.size w V2) := by rw [hV2]; exact (((Kw2.out.setCell (by simp only; omega) _).setCell (by simp only; omega) _).setCell (by simp only; omega) _)
  have A0V2 : Hid (At w.heap.size (w.heap.size + 1) (Bx w.heap.size [.int .i64 cb, .int .i64 cg, .int .i64 co, .int .i64 cn, .int .i64 ce, .int .i64 cf, .int .i64 ct, .int .i64 cc, .slice na ns.length nc, .int .i64 ls, .int .i64 lc, .int .i64 lt, .int .i64 r1, .int .i64 r2, .int .i64 r3, .int .i64 r4, .int .i64 r5]) V2) := by rw [hV2]; exact (((A0w2.out.set _ (by omega)).set _ (by omega)).set _ (by omega))
  have A1V2 : Hid (At (w.heap.size + 1) ((w.heap.size + 1) + 1) (Bx (w.heap.size + 1) [.int .i64 0, .int .i64 0, .int .i64 0, .int .i64 0, .int .i64 0, .int .i64 0, .int .i64 0, .int .i64 0, .slice none 0 0, .int .i64 0, .int .i64 0, .int .i64 0, .int .i64 0, .int .i64 0, .int .i64 0, .int .i64 0, .int .i64 0]) V2) := by rw [hV2]; exact (((A1w2.out.set _ (by omega)).set _ (by omega)).set _ (by omega))
  have A2V2 : Hid (At (w.heap.size + 2) (w.heap.size + 2 + 1) (Bx (w.heap.size + 2) [.int .i64 cb, .int .i64 cg, .int .i64 co, .int .i64 cn, .int .i64 ce, .int .i64 cf, .int .i64 ct, .int .i64 cc, .slice (some ⟨G, 0, none⟩) ns.length ns.length, .int .i64 ls, .int .i64 lc, .int .i64 lt, .int .i64 0, .int .i64 0, .int .i64 0, .int .i64 0, .int .i64 0]) V2) := by rw [hV2]; exact (Bx.put (Bx.put (Bx.put A2w2.out 9 (.int .i64 ls) (by simp)) 10 (.int .i64 lc) (by simp)) 11 (.int .i64 lt) (by simp))
  have B0V1w2V2 : Hid (At l0 h0 (C8 G) V2) := by rw [hV2]; exact (((B0V1w2.out.set _ (.inl (by have := O0.out; omega))).set _ (.inl (by have := O0.out; omega))).set _ (.inl (by have := O0.out; omega)))
  have a9_V2 := A2w2.out.val.1 9 _ rfl
  have a10_V2 := A2w2.out.val.1 10 _ rfl
  have a11_V2 := A2w2.out.val.1 11 _ rfl
  have af_V2 := A2w2.out.val.2
  have af9_V2 := af_V2 9
  have af10_V2 := af_V2 10
  have af11_V2 := af_V2 11
  clear af_V2
  clear hV2 Kw2 A0w2 A1w2 A2w2 B0V1w2
  go_wp2_with fail
  rw [← HV2.out]
  clear a9_V2 a10_V2 a11_V2 af9_V2 af10_V2 af11_V2 g12 g13 g14 g15 g16 HV2
  refine (H2.out V2 KV2.out).mono ?_
  rintro e0 w3 ⟨rfl, hb⟩
  have Kw3 : Hid (Below w.heap.size w w3) := KV2.out.trans (hb.mono KV2.out.size)
  have A0w3 : Hid (At w.heap.size (w.heap.size + 1) (Bx w.heap.size [.int .i64 cb, .int .i64 cg, .int .i64 co, .int .i64 cn, .int .i64 ce, .int .i64 cf, .int .i64 ct, .int .i64 cc, .slice na ns.length nc, .int .i64 ls, .int .i64 lc, .int .i64 lt, .int .i64 r1, .int .i64 r2, .int .i64 r3, .int .i64 r4, .int .i64 r5]) w3) := A0V2.out.keep hb
  have A1w3 : Hid (At (w.heap.size + 1) ((w.heap.size + 1) + 1) (Bx (w.heap.size + 1) [.int .i64 0, .int .i64 0, .int .i64 0, .int .i64 0, .int .i64 0, .int .i64 0, .int .i64 0, .int .i64 0, .slice none 0 0, .int .i64 0, .int .i64 0, .int .i64 0, .int .i64 0, .int .i64 0, .int .i64 0, .int .i64 0, .int .i64 0]) w3) := A1V2.out.keep hb
  have A2w3 : Hid (At (w.heap.size + 2) ((w.heap.size + 2) + 1) (Bx (w.heap.size + 2) [.int .i64 cb, .int .i64 cg, .int .i64 co, .int .i64 cn, .int .i64 ce, .int .i64 cf, .int .i64 ct, .int .i64 cc, .slice (some ⟨G, 0, none⟩) ns.length ns.length, .int .i64 ls, .int .i64 lc, .int .i64 lt, .int .i64 0, .int .i64 0, .int .i64 0, .int .i64 0, .int .i64 0]) w3) := A2V2.out.keep hb
  have B0V1w2V2w3 : Hid (At l0 h0 (C8 G) w3) := B0V1w2V2.out.keep hb
  clear hb KV2 A0V2 A1V2 A2V2 B0V1w2V2 H2
  obtain ⟨V3, hV3⟩ : ∃ V, V = (((((w3.setCell ⟨w.heap.size + 2, 12, none⟩ (.int .i64 r1)).setCell ⟨w.heap.size + 2, 13, none⟩ (.int .i64 r2)).setCell ⟨w.heap.size + 2, 14, none⟩ (.int .i64 r3)).setCell ⟨w.heap.size + 2, 15, none⟩ (.int .i64 r4)).setCell ⟨w.heap.size + 2, 16, none⟩ (.int .i64 r5)) := ⟨_, rfl⟩
  have HV3 : Hid (V3 = (((((w3.setCell ⟨w.heap.size + 2, 12, none⟩ (.int .i64 r1)).setCell ⟨w.heap.size + 2, 13, none⟩ (.int .i64 r2)).setCell ⟨w.heap.size + 2, 14, none⟩ (.int .i64 r3)).setCell ⟨w.heap.size + 2, 15, none⟩ (.int .i64 r4)).setCell ⟨w.heap.size + 2, 16, none⟩ (.int .i64 r5))) := hV3
  have KV3 : Hid (Below w.heap.size w V3) := by rw [hV3]; exact (((((Kw3.out.setCell (by simp only; omega) _).setCell (by simp only; omega) _).setCell (by simp only; omega) _).setCell (by simp only; omega) _).setCell (by simp only; omega) _)
  have A0V3 : Hid (At w.heap.size (w.heap.size + 1) (Bx w.heap.size [.int .i64 cb, .int .i64 cg, .int .i64 co, .int .i64 cn, .int .i64 ce, .int .i64 cf, .int .i64 ct, .int .i64 cc, .slice na ns.length nc, .int .i64 ls, .int .i64 lc, .int .i64 lt, .int .i64 r1, .int .i64 r2, .int .i64 r3, .int .i64 r4, .int .i64 r5]) V3) := by rw [hV3]; exact (((((A0w3.out.set _ (by omega)).set _ (by omega)).set _ (by omega)).set _ (by omega)).set _ (by omega))
  have A1V3 : Hid (At (w.heap.size + 1) ((w.heap.size + 1) + 1) (Bx (w.heap.size + 1) [.int .i64 0, .int .i64 0, .int .i64 0, .int .i64 0, .int .i64 0, .int .i64 0, .int .i64 0, .int .i64 0, .slice none 0 0, .int .i64 0, .int .i64 0, .int .i64 0, .int .i64 0, .int .i64 0, .int .i64 0, .int .i64 0, .int .i64 0]) V3) := by rw [hV3]; exact (((((A1w3.out.set _ (by omega)).set _ (by omega)).set _ (by omega)).set _ (by omega)).set _ (by omega))
  have A2V3 : Hid (At (w.heap.size + 2) (w.heap.size + 2 + 1) (Bx (w.heap.size + 2) [.int .i64 cb, .int .i64 cg, .int .i64 co, .int .i64 cn, .int .i64 ce, .int .i64 cf, .int .i64 ct, .int .i64 cc, .slice (some ⟨G, 0, none⟩) ns.length ns.length, .int .i64 ls, .int .i64 lc, .int .i64 lt, .int .i64 r1, .int .i64 r2, .int .i64 r3, .int .i64 r4, .int .i64 r5]) V3) := by rw [hV3]; exact (Bx.put (Bx.put (Bx.put (Bx.put (Bx.put A2w3.out 12 (.int .i64 r1) (by simp)) 13 (.int .i64 r2) (by simp)) 14 (.int .i64 r3) (by simp)) 15 (.int .i64 r4) (by simp)) 16 (.int .i64 r5) (by simp))
  have B0V1w2V2w3V3 : Hid (At l0 h0 (C8 G) V3) := by rw [hV3]; exact (((((B0V1w2V2w3.out.set _ (.inl (by have := O0.out; omega))).set _ (.inl (by have := O0.out; omega))).set _ (.inl (by have := O0.out; omega))).set _ (.inl (by have := O0.out; omega))).set _ (.inl (by have := O0.out; omega)))
  have a12_V3 := A2w3.out.val.1 12 _ rfl
  have a13_V3 := A2w3.out.val.1 13 _ rfl
  have a14_V3 := A2w3.out.val.1 14 _ rfl
  have a15_V3 := A2w3.out.val.1 15 _ rfl
  have a16_V3 := A2w3.out.val.1 16 _ rfl
  have af_V3 := A2w3.out.val.2
  have af12_V3 := af_V3 12
  have af13_V3 := af_V3 13
  have af14_V3 := af_V3 14
  have af15_V3 := af_V3 15
  have af16_V3 := af_V3 16
  clear af_V3
  clear hV3 Kw3 A0w3 A1w3 A2w3 B0V1w2V2w3
  go_upto_region 13 with fail
  rw [← HV3.out]
  clear a12_V3 a13_V3 a14_V3 a15_V3 a16_V3 af12_V3 af13_V3 af14_V3 af15_V3 af16_V3 HV3
  refine wp_copyOut (b1 := w.heap.size + 2) (b2 := w.heap.size + 1) (vs := [.int .i64 cb, .int .i64 cg, .int .i64 co, .int .i64 cn, .int .i64 ce, .int .i64 cf, .int .i64 ct, .int .i64 cc, .slice (some ⟨G, 0, none⟩) ns.length ns.length, .int .i64 ls, .int .i64 lc, .int .i64 lt, .int .i64 r1, .int .i64 r2, .int .i64 r3, .int .i64 r4, .int .i64 r5]) (zs := [.int .i64 0, .int .i64 0, .int .i64 0, .int .i64 0, .int .i64 0, .int .i64 0, .int .i64 0, .int .i64 0, .slice none 0 0, .int .i64 0, .int .i64 0, .int .i64 0, .int .i64 0, .int .i64 0, .int .i64 0, .int .i64 0, .int .i64 0]) Tryd.underlying34 sizeConfig rfl (fun _ => rfl) (fun _ => rfl) A2V3.out.val.1 A1V3.out.val.1 A1V3.out.val.2 rfl rfl ?_
  obtain ⟨VF, hVF⟩ : ∃ V, V = putAll V3 (w.heap.size + 1) 0 [.int .i64 cb, .int .i64 cg, .int .i64 co, .int .i64 cn, .int .i64 ce, .int .i64 cf, .int .i64 ct, .int .i64 cc, .slice (some ⟨G, 0, none⟩) ns.length ns.length, .int .i64 ls, .int .i64 lc, .int .i64 lt, .int .i64 r1, .int .i64 r2, .int .i64 r3, .int .i64 r4, .int .i64 r5] := ⟨_, rfl⟩
  rw [← hVF]
  have R : At (w.heap.size + 1) (w.heap.size + 1 + 1) (Bx (w.heap.size + 1) [.int .i64 cb, .int .i64 cg, .int .i64 co, .int .i64 cn, .int .i64 ce, .int .i64 cf, .int .i64 ct, .int .i64 cc, .slice (some ⟨G, 0, none⟩) ns.length ns.length, .int .i64 ls, .int .i64 lc, .int .i64 lt, .int .i64 r1, .int .i64 r2, .int .i64 r3, .int .i64 r4, .int .i64 r5]) VF := by rw [hVF]; exact Bx.putAll A1V3.out [.int .i64 cb, .int .i64 cg, .int .i64 co, .int .i64 cn, .int .i64 ce, .int .i64 cf, .int .i64 ct, .int .i64 cc, .slice (some ⟨G, 0, none⟩) ns.length ns.length, .int .i64 ls, .int .i64 lc, .int .i64 lt, .int .i64 r1, .int .i64 r2, .int .i64 r3, .int .i64 r4, .int .i64 r5] rfl
  have KF : Below w.heap.size w VF := by rw [hVF]; exact below_putAll (by omega) [.int .i64 cb, .int .i64 cg, .int .i64 co, .int .i64 cn, .int .i64 ce, .int .i64 cf, .int .i64 ct, .int .i64 cc, .slice (some ⟨G, 0, none⟩) ns.length ns.length, .int .i64 ls, .int .i64 lc, .int .i64 lt, .int .i64 r1, .int .i64 r2, .int .i64 r3, .int .i64 r4, .int .i64 r5] 0 KV3.out
  have E0 : At l0 h0 (C8 G) VF := by rw [hVF]; exact At.putAll (.inl (by have := O0.out; omega)) [.int .i64 cb, .int .i64 cg, .int .i64 co, .int .i64 cn, .int .i64 ce, .int .i64 cf, .int .i64 ct, .int .i64 cc, .slice (some ⟨G, 0, none⟩) ns.length ns.length, .int .i64 ls, .int .i64 lc, .int .i64 lt, .int .i64 r1, .int .i64 r2, .int .i64 r3, .int .i64 r4, .int .i64 r5] 0 B0V1w2V2w3V3.out
  have o0 := O0.out
  have s0 := E0.le
  clear hVF KV3 A0V3 A1V3 A2V3 B0V1w2V2w3V3
  go_wp2_with fail
  have rz0 := R.val.1 0 _ rfl
  have rz1 := R.val.1 1 _ rfl
  have rz2 := R.val.1 2 _ rfl
  have rz3 := R.val.1 3 _ rfl
  have rz4 := R.val.1 4 _ rfl
  have rz5 := R.val.1 5 _ rfl
  have rz6 := R.val.1 6 _ rfl
  have rz7 := R.val.1 7 _ rfl
  have rz8 := R.val.1 8 _ rfl
  have rz9 := R.val.1 9 _ rfl
  have rz10 := R.val.1 10 _ rfl
  have rz11 := R.val.1 11 _ rfl
  have rz12 := R.val.1 12 _ rfl
  have rz13 := R.val.1 13 _ rfl
  have rz14 := R.val.1 14 _ rfl
  have rz15 := R.val.1 15 _ rfl
  have rz16 := R.val.1 16 _ rfl
  refine bodyPost_ret (v := .agg #[.int .i64 cb, .int .i64 cg, .int .i64 co, .int .i64 cn, .int .i64 ce, .int .i64 cf, .int .i64 ct, .int .i64 cc, .slice (some ⟨G, 0, none⟩) ns.length ns.length, .int .i64 ls, .int .i64 lc, .int .i64 lt, .int .i64 r1, .int .i64 r2, .int .i64 r3, .int .i64 r4, .int .i64 r5]) ?_ rfl ⟨⟨G, rfl, (At.wideW (Wide.at E0 (by omega)) (by omega) (by omega) (Nat.le_refl _))⟩, KF⟩
  simp [results, Tryd.results6, go_sem, rz0, rz1, rz2, rz3, rz4, rz5, rz6, rz7, rz8, rz9, rz10, rz11, rz12, rz13, rz14, rz15, rz16]
set_option maxRecDepth 100000 in
set_option maxHeartbeats 8000000 in
theorem eq_Config (w : World) (cb cg co cn ce cf ct cc : Int) (ns : List ByteArray) (ls lc lt : Int) (r1 r2 r3 r4 r5 : Int) (C8 : Nat → Nat → Nat → World → Prop) (Gx : Nat) (Gy : Nat) (xl0 xh0 : Nat) (yl0 yh0 : Nat) (cx0 : At xl0 xh0 (C8 Gx) w) (cy0 : At yl0 yh0 (C8 Gy) w) (H0 : Hid (∀ X la ha lb hb (Gx : Nat) (Gy : Nat), At la ha (C8 Gx) X → At lb hb (C8 Gy) X → Calls Tryd.prog 24 #[.slice (some ⟨Gx, 0, none⟩) ns.length ns.length, .slice (some ⟨Gy, 0, none⟩) ns.length ns.length] X fun e w' => e = .returned (.bool true) ∧ Below X.heap.size X w'))
    (H1 : Hid (∀ X, Calls Tryd.prog 25 #[.agg #[.int .i64 ls, .int .i64 lc, .int .i64 lt], .agg #[.int .i64 ls, .int .i64 lc, .int .i64 lt]] X fun e w' => e = .returned (.bool true) ∧ Below X.heap.size X w'))
    (H2 : Hid (∀ X, Calls Tryd.prog 26 #[.agg #[.int .i64 r1, .int .i64 r2, .int .i64 r3, .int .i64 r4, .int .i64 r5], .agg #[.int .i64 r1, .int .i64 r2, .int .i64 r3, .int .i64 r4, .int .i64 r5]] X fun e w' => e = .returned (.bool true) ∧ Below X.heap.size X w')) :
    Calls Tryd.prog 8 #[.agg #[.int .i64 cb, .int .i64 cg, .int .i64 co, .int .i64 cn, .int .i64 ce, .int .i64 cf, .int .i64 ct, .int .i64 cc, .slice (some ⟨Gx, 0, none⟩) ns.length ns.length, .int .i64 ls, .int .i64 lc, .int .i64 lt, .int .i64 r1, .int .i64 r2, .int .i64 r3, .int .i64 r4, .int .i64 r5], .agg #[.int .i64 cb, .int .i64 cg, .int .i64 co, .int .i64 cn, .int .i64 ce, .int .i64 cf, .int .i64 ct, .int .i64 cc, .slice (some ⟨Gy, 0, none⟩) ns.length ns.length, .int .i64 ls, .int .i64 lc, .int .i64 lt, .int .i64 r1, .int .i64 r2, .int .i64 r3, .int .i64 r4, .int .i64 r5]] w fun e w' => e = .returned (.bool true) ∧ Below w.heap.size w w' := by
  obtain ⟨W, hW⟩ : ∃ W, W = (w.alloc (.cells #[.int .i64 cb, .int .i64 cg, .int .i64 co, .int .i64 cn, .int .i64 ce, .int .i64 cf, .int .i64 ct, .int .i64 cc, .slice (some ⟨Gx, 0, none⟩) ns.length ns.length, .int .i64 ls, .int .i64 lc, .int .i64 lt, .int .i64 r1, .int .i64 r2, .int .i64 r3, .int .i64 r4, .int .i64 r5] 34)).alloc (.cells #[.int .i64 cb, .int .i64 cg, .int .i64 co, .int .i64 cn, .int .i64 ce, .int .i64 cf, .int .i64 ct, .int .i64 cc, .slice (some ⟨Gy, 0, none⟩) ns.length ns.length, .int .i64 ls, .int .i64 lc, .int .i64 lt, .int .i64 r1, .int .i64 r2, .int .i64 r3, .int .i64 r4, .int .i64 r5] 34) := ⟨_, rfl⟩
  have HW : Hid (W = (w.alloc (.cells #[.int .i64 cb, .int .i64 cg, .int .i64 co, .int .i64 cn, .int .i64 ce, .int .i64 cf, .int .i64 ct, .int .i64 cc, .slice (some ⟨Gx, 0, none⟩) ns.length ns.length, .int .i64 ls, .int .i64 lc, .int .i64 lt, .int .i64 r1, .int .i64 r2, .int .i64 r3, .int .i64 r4, .int .i64 r5] 34)).alloc (.cells #[.int .i64 cb, .int .i64 cg, .int .i64 co, .int .i64 cn, .int .i64 ce, .int .i64 cf, .int .i64 ct, .int .i64 cc, .slice (some ⟨Gy, 0, none⟩) ns.length ns.length, .int .i64 ls, .int .i64 lc, .int .i64 lt, .int .i64 r1, .int .i64 r2, .int .i64 r3, .int .i64 r4, .int .i64 r5] 34)) := hW
  have KW : Hid (Below w.heap.size w W) := by rw [hW]; exact ((Below.refl _ _).alloc (Nat.le_refl _) _).alloc (by simp) _
  have A0 : Hid (At w.heap.size (w.heap.size + 1) (Bx w.heap.size [.int .i64 cb, .int .i64 cg, .int .i64 co, .int .i64 cn, .int .i64 ce, .int .i64 cf, .int .i64 ct, .int .i64 cc, .slice (some ⟨Gx, 0, none⟩) ns.length ns.length, .int .i64 ls, .int .i64 lc, .int .i64 lt, .int .i64 r1, .int .i64 r2, .int .i64 r3, .int .i64 r4, .int .i64 r5]) W) := by rw [hW]; exact (Bx.new _ [.int .i64 cb, .int .i64 cg, .int .i64 co, .int .i64 cn, .int .i64 ce, .int .i64 cf, .int .i64 ct, .int .i64 cc, .slice (some ⟨Gx, 0, none⟩) ns.length ns.length, .int .i64 ls, .int .i64 lc, .int .i64 lt, .int .i64 r1, .int .i64 r2, .int .i64 r3, .int .i64 r4, .int .i64 r5] _).al _
  have A1 : Hid (At (w.heap.size + 1) (w.heap.size + 1 + 1) (Bx (w.heap.size + 1) [.int .i64 cb, .int .i64 cg, .int .i64 co, .int .i64 cn, .int .i64 ce, .int .i64 cf, .int .i64 ct, .int .i64 cc, .slice (some ⟨Gy, 0, none⟩) ns.length ns.length, .int .i64 ls, .int .i64 lc, .int .i64 lt, .int .i64 r1, .int .i64 r2, .int .i64 r3, .int .i64 r4, .int .i64 r5]) W) := by rw [hW]; exact Bx.newAt (by simp) [.int .i64 cb, .int .i64 cg, .int .i64 co, .int .i64 cn, .int .i64 ce, .int .i64 cf, .int .i64 ct, .int .i64 cc, .slice (some ⟨Gy, 0, none⟩) ns.length ns.length, .int .i64 ls, .int .i64 lc, .int .i64 lt, .int .i64 r1, .int .i64 r2, .int .i64 r3, .int .i64 r4, .int .i64 r5] _
  have Fx0 : Hid (At xl0 xh0 (C8 Gx) W) := by rw [hW]; exact (cx0.al _).al _
  have Fy0 : Hid (At yl0 yh0 (C8 Gy) W) := by rw [hW]; exact (cy0.al _).al _
  clear hW cx0 cy0
  go_enter Tryd.func8, Tryd.ntmps8
  go_wp2_with fail
  rw [← HW.out]
  clear HW
  refine (H0.out _ _ _ _ _ _ _ Fx0.out Fy0.out).mono ?_
  rintro e0 w1 ⟨rfl, hb⟩
  have Kw1 : Hid (Below w.heap.size w w1) := KW.out.trans (hb.mono KW.out.size)
  have A0w1 : Hid (At w.heap.size (w.heap.size + 1) (Bx w.heap.size [.int .i64 cb, .int .i64 cg, .int .i64 co, .int .i64 cn, .int .i64 ce, .int .i64 cf, .int .i64 ct, .int .i64 cc, .slice (some ⟨Gx, 0, none⟩) ns.length ns.length, .int .i64 ls, .int .i64 lc, .int .i64 lt, .int .i64 r1, .int .i64 r2, .int .i64 r3, .int .i64 r4, .int .i64 r5]) w1) := A0.out.keep hb
  have A1w1 : Hid (At (w.heap.size + 1) ((w.heap.size + 1) + 1) (Bx (w.heap.size + 1) [.int .i64 cb, .int .i64 cg, .int .i64 co, .int .i64 cn, .int .i64 ce, .int .i64 cf, .int .i64 ct, .int .i64 cc, .slice (some ⟨Gy, 0, none⟩) ns.length ns.length, .int .i64 ls, .int .i64 lc, .int .i64 lt, .int .i64 r1, .int .i64 r2, .int .i64 r3, .int .i64 r4, .int .i64 r5]) w1) := A1.out.keep hb
  have Fx0w1 : Hid (At xl0 xh0 (C8 Gx) w1) := Fx0.out.keep hb
  have Fy0w1 : Hid (At yl0 yh0 (C8 Gy) w1) := Fy0.out.keep hb
  clear hb KW A0 A1 Fx0 Fy0 H0
  have p0_9 := A0w1.out.val.1 9 _ rfl
  have p1_9 := A1w1.out.val.1 9 _ rfl
  have p0_10 := A0w1.out.val.1 10 _ rfl
  have p1_10 := A1w1.out.val.1 10 _ rfl
  have p0_11 := A0w1.out.val.1 11 _ rfl
  have p1_11 := A1w1.out.val.1 11 _ rfl
  go_wp2_with fail
  refine (H1.out w1).mono ?_
  rintro e0 w2 ⟨rfl, hb⟩
  have Kw2 : Hid (Below w.heap.size w w2) := Kw1.out.trans (hb.mono Kw1.out.size)
  have A0w2 : Hid (At w.heap.size (w.heap.size + 1) (Bx w.heap.size [.int .i64 cb, .int .i64 cg, .int .i64 co, .int .i64 cn, .int .i64 ce, .int .i64 cf, .int .i64 ct, .int .i64 cc, .slice (some ⟨Gx, 0, none⟩) ns.length ns.length, .int .i64 ls, .int .i64 lc, .int .i64 lt, .int .i64 r1, .int .i64 r2, .int .i64 r3, .int .i64 r4, .int .i64 r5]) w2) := A0w1.out.keep hb
  have A1w2 : Hid (At (w.heap.size + 1) ((w.heap.size + 1) + 1) (Bx (w.heap.size + 1) [.int .i64 cb, .int .i64 cg, .int .i64 co, .int .i64 cn, .int .i64 ce, .int .i64 cf, .int .i64 ct, .int .i64 cc, .slice (some ⟨Gy, 0, none⟩) ns.length ns.length, .int .i64 ls, .int .i64 lc, .int .i64 lt, .int .i64 r1, .int .i64 r2, .int .i64 r3, .int .i64 r4, .int .i64 r5]) w2) := A1w1.out.keep hb
  have Fx0w1w2 : Hid (At xl0 xh0 (C8 Gx) w2) := Fx0w1.out.keep hb
  have Fy0w1w2 : Hid (At yl0 yh0 (C8 Gy) w2) := Fy0w1.out.keep hb
  clear hb Kw1 A0w1 A1w1 Fx0w1 Fy0w1 p0_9 p1_9 p0_10 p1_10 p0_11 p1_11 H1
  have p0_12 := A0w2.out.val.1 12 _ rfl
  have p1_12 := A1w2.out.val.1 12 _ rfl
  have p0_13 := A0w2.out.val.1 13 _ rfl
  have p1_13 := A1w2.out.val.1 13 _ rfl
  have p0_14 := A0w2.out.val.1 14 _ rfl
  have p1_14 := A1w2.out.val.1 14 _ rfl
  have p0_15 := A0w2.out.val.1 15 _ rfl
  have p1_15 := A1w2.out.val.1 15 _ rfl
  have p0_16 := A0w2.out.val.1 16 _ rfl
  have p1_16 := A1w2.out.val.1 16 _ rfl
  go_wp2_with fail
  refine (H2.out w2).mono ?_
  rintro e0 w3 ⟨rfl, hb⟩
  have Kw3 : Hid (Below w.heap.size w w3) := Kw2.out.trans (hb.mono Kw2.out.size)
  have A0w3 : Hid (At w.heap.size (w.heap.size + 1) (Bx w.heap.size [.int .i64 cb, .int .i64 cg, .int .i64 co, .int .i64 cn, .int .i64 ce, .int .i64 cf, .int .i64 ct, .int .i64 cc, .slice (some ⟨Gx, 0, none⟩) ns.length ns.length, .int .i64 ls, .int .i64 lc, .int .i64 lt, .int .i64 r1, .int .i64 r2, .int .i64 r3, .int .i64 r4, .int .i64 r5]) w3) := A0w2.out.keep hb
  have A1w3 : Hid (At (w.heap.size + 1) ((w.heap.size + 1) + 1) (Bx (w.heap.size + 1) [.int .i64 cb, .int .i64 cg, .int .i64 co, .int .i64 cn, .int .i64 ce, .int .i64 cf, .int .i64 ct, .int .i64 cc, .slice (some ⟨Gy, 0, none⟩) ns.length ns.length, .int .i64 ls, .int .i64 lc, .int .i64 lt, .int .i64 r1, .int .i64 r2, .int .i64 r3, .int .i64 r4, .int .i64 r5]) w3) := A1w2.out.keep hb
  have Fx0w1w2w3 : Hid (At xl0 xh0 (C8 Gx) w3) := Fx0w1w2.out.keep hb
  have Fy0w1w2w3 : Hid (At yl0 yh0 (C8 Gy) w3) := Fy0w1w2.out.keep hb
  clear hb Kw2 A0w2 A1w2 Fx0w1w2 Fy0w1w2 p0_12 p1_12 p0_13 p1_13 p0_14 p1_14 p0_15 p1_15 p0_16 p1_16 H2
  go_wp2_with fail
  go_ret
  exact ⟨rfl, Kw3.out⟩
theorem szTs_neg (l : List ByteArray) : ∀ left : Int, 0 ≤ left → szTs left l = -1 ∨ 0 ≤ szTs left l := by
  induction l with
  | nil => intro left h; exact .inr h
  | cons r l ih =>
    intro left h
    rw [szTs]
    split
    · exact .inl rfl
    · exact ih _ (by omega)
set_option maxHeartbeats 2000000 in
theorem szConfig_any (w : World) (cb cg co cn ce cf ct cc : Int) (na : Option Addr) (nc : Nat) (ns : List ByteArray) (ls lc lt : Int) (r1 r2 r3 r4 r5 : Int) (hl : ns.length ≤ maxLen) (hi : TIn w na ns) (hz : ∀ x ∈ ns, x.size ≤ maxLen) (left : Int) (h0 : 0 ≤ left) (h1 : left ≤ 1048576) :
    Calls Tryd.prog 4 #[.agg #[.int .i64 cb, .int .i64 cg, .int .i64 co, .int .i64 cn, .int .i64 ce, .int .i64 cf, .int .i64 ct, .int .i64 cc, .slice na ns.length nc, .int .i64 ls, .int .i64 lc, .int .i64 lt, .int .i64 r1, .int .i64 r2, .int .i64 r3, .int .i64 r4, .int .i64 r5], .int .i64 left] w fun e w' => e = .returned (.int .i64 (szTL left ns)) ∧ Below w.heap.size w w' := by
  have HB0 : Hid (Below w.heap.size w (w.alloc (.cells #[.int .i64 cb, .int .i64 cg, .int .i64 co, .int .i64 cn, .int .i64 ce, .int .i64 cf, .int .i64 ct, .int .i64 cc, .slice na ns.length nc, .int .i64 ls, .int .i64 lc, .int .i64 lt, .int .i64 r1, .int .i64 r2, .int .i64 r3, .int .i64 r4, .int .i64 r5] 28))) := (Below.refl _ _).alloc (Nat.le_refl _) _
  have HZ : Hid (∀ X, Below w.heap.size w X → Calls Tryd.prog 9 #[.slice na ns.length nc, .int .i64 left] X fun e w' => e = .returned (.int .i64 (szTL left ns)) ∧ Below X.heap.size X w') := fun X hX => szStringS_any X na nc ns hl (hi.keep hX) hz left h0 h1
  have HM : Hid (szTL left ns < 0 → szTL left ns = -1) := fun h => by
    unfold szTL at h ⊢
    split
    · rfl
    · rename_i g
      rw [if_neg g] at h
      rcases szTs_neg ns (left - (ns.length : Int)) (by omega) with q | q
      · exact q
      · omega
  clear hl hi hz
  generalize szTL left ns = z at *
  generalize ns.length = n at *
  by_cases c : z < 0
  · have HE := HM.out c
    subst HE
    go_enter Tryd.func4, Tryd.ntmps4
    go_wp2_with fail
    refine (HZ.out _ HB0.out).mono ?_
    rintro e w1 ⟨rfl, hb⟩
    have HB1 : Hid (Below w.heap.size w w1) := HB0.out.trans (hb.mono HB0.out.size)
    clear hb
    go_wp2_with fail
    go_ret
    exact ⟨rfl, HB1.out⟩
  · go_enter Tryd.func4, Tryd.ntmps4
    go_wp2_with fail
    refine (HZ.out _ HB0.out).mono ?_
    rintro e w1 ⟨rfl, hb⟩
    have HB1 : Hid (Below w.heap.size w w1) := HB0.out.trans (hb.mono HB0.out.size)
    clear hb
    go_wp2_with fail
    go_ret
    exact ⟨rfl, HB1.out⟩
set_option maxHeartbeats 1000000 in
theorem eqLanes_any (s c t : Int) (w : World) :
    Calls Tryd.prog 25 #[.agg #[.int .i64 s, .int .i64 c, .int .i64 t], .agg #[.int .i64 s, .int .i64 c, .int .i64 t]] w fun r w' => r = .returned (.bool true) ∧ Below w.heap.size w w' := by
  go_enter Tryd.func25, Tryd.ntmps25
  go_wp2
  go_ret
  exact ⟨rfl, ((Below.refl _ _).alloc (Nat.le_refl _) _).alloc (by simp) _⟩
set_option maxHeartbeats 1000000 in
theorem eqRules_any (a b c d e : Int) (w : World) :
    Calls Tryd.prog 26 #[.agg #[.int .i64 a, .int .i64 b, .int .i64 c, .int .i64 d, .int .i64 e], .agg #[.int .i64 a, .int .i64 b, .int .i64 c, .int .i64 d, .int .i64 e]] w fun r w' => r = .returned (.bool true) ∧ Below w.heap.size w w' := by
  go_enter Tryd.func26, Tryd.ntmps26
  go_wp2
  go_ret
  exact ⟨rfl, ((Below.refl _ _).alloc (Nat.le_refl _) _).alloc (by simp) _⟩
theorem cfgT (w : World) (cb cg co cn ce cf ct cc : Int) (na : Option Addr) (nc : Nat) (ns : List ByteArray) (ls lc lt : Int) (r1 r2 r3 r4 r5 : Int) (hl : ns.length ≤ 1048576) (hi : TIn w na ns) (X : World) (hX : Below w.heap.size w X) :
    Calls Tryd.prog 6 #[.agg #[.int .i64 cb, .int .i64 cg, .int .i64 co, .int .i64 cn, .int .i64 ce, .int .i64 cf, .int .i64 ct, .int .i64 cc, .slice na ns.length nc, .int .i64 ls, .int .i64 lc, .int .i64 lt, .int .i64 r1, .int .i64 r2, .int .i64 r3, .int .i64 r4, .int .i64 r5]] X fun e w' => (∃ (G : Nat), e = .returned (.agg #[.int .i64 cb, .int .i64 cg, .int .i64 co, .int .i64 cn, .int .i64 ce, .int .i64 cf, .int .i64 ct, .int .i64 cc, .slice (some ⟨G, 0, none⟩) ns.length ns.length, .int .i64 ls, .int .i64 lc, .int .i64 lt, .int .i64 r1, .int .i64 r2, .int .i64 r3, .int .i64 r4, .int .i64 r5]) ∧ At X.heap.size w'.heap.size (Wide (TM G ns)) w') ∧ Below X.heap.size X w' :=
  to_Config X cb cg co cn ce cf ct cc na nc ns ls lc lt r1 r2 r3 r4 r5 (fun G => TM G ns) (fun Y hY => (toStringS_any Y na nc ns hl (hi.keep (hX.trans (hY.mono hX.size)))).mono fun _ _ ⟨h1, h2, h3⟩ => ⟨⟨_, h1, Nat.le_refl _, TM.dep _ _ _ _, h2, Nat.le_refl _, h2.lt⟩, h3⟩) (fun Y _ => toLanes_any ls lc lt Y) (fun Y _ => toRules_any r1 r2 r3 r4 r5 Y)
theorem cfgQ (cb cg co cn ce cf ct cc : Int) (ns : List ByteArray) (ls lc lt : Int) (r1 r2 r3 r4 r5 : Int) (hl : ns.length ≤ 1048576) (X : World) (la ha lb hb Gx Gy : Nat) (c : At la ha (Wide (TM Gx ns)) X) (d : At lb hb (Wide (TM Gy ns)) X) :
    Calls Tryd.prog 8 #[.agg #[.int .i64 cb, .int .i64 cg, .int .i64 co, .int .i64 cn, .int .i64 ce, .int .i64 cf, .int .i64 ct, .int .i64 cc, .slice (some ⟨Gx, 0, none⟩) ns.length ns.length, .int .i64 ls, .int .i64 lc, .int .i64 lt, .int .i64 r1, .int .i64 r2, .int .i64 r3, .int .i64 r4, .int .i64 r5], .agg #[.int .i64 cb, .int .i64 cg, .int .i64 co, .int .i64 cn, .int .i64 ce, .int .i64 cf, .int .i64 ct, .int .i64 cc, .slice (some ⟨Gy, 0, none⟩) ns.length ns.length, .int .i64 ls, .int .i64 lc, .int .i64 lt, .int .i64 r1, .int .i64 r2, .int .i64 r3, .int .i64 r4, .int .i64 r5]] X fun e w' => e = .returned (.bool true) ∧ Below X.heap.size X w' := by
  obtain ⟨l1, h1, _, _, _, c1⟩ := c.val
  obtain ⟨l2, h2, _, _, _, c2⟩ := d.val
  exact eq_Config X cb cg co cn ce cf ct cc ns ls lc lt r1 r2 r3 r4 r5 (fun G => TM G ns) Gx Gy l1 h1 l2 h2 c1 c2 (fun Y la ha lb hb gx gy p q => eqStringS_same Y _ _ _ _ ns hl p.val.in q.val.in) (fun Y => eqLanes_any ls lc lt Y) (fun Y => eqRules_any r1 r2 r3 r4 r5 Y)
end Go.Proofs.YtlbagfaiiileoaaDoor
/-
  What the laws over lists of items share.
-/
namespace Go.Proofs.YtlbagfaiiileoaaDoor
open Go.ChangeShapes Go.WideShapes Go.ChangeAt Go.RowKit
/-- The slice at a holds the items l. -/
def HdsIn (w : World) (a : Option Addr) (l : List Hdr) : Prop := l = [] ∨ ∃ b off, a = some ⟨b, off, none⟩ ∧ HeadsAt w b off l
theorem HdsIn.keep {w w' : World} {a : Option Addr} {l : List Hdr} (h : HdsIn w a l) (hb : Below w.heap.size w w') : HdsIn w' a l := by
  rcases h with h | ⟨b, off, e, hat⟩
  · exact .inl h
  · exact .inr ⟨b, off, e, hat.keep hb⟩
theorem szH_room {left : Int} {r : Hdr} (h : ¬ szH left r < 0) : (r.name.size : Int) ≤ left ∧ (r.value.size : Int) ≤ left ∧ szH left r ≤ left := by
  by_cases c1 : left - (r.name.size : Int) < 0
  · rw [show szH left r = -1 from by simp [szH, c1]] at h; omega
  · by_cases c2 : left - (r.name.size : Int) - (r.value.size : Int) < 0
    · rw [show szH left r = -1 from by simp [szH, c1, c2]] at h; omega
    · have e : szH left r = left - (r.name.size : Int) - (r.value.size : Int) := by simp [szH, c1, c2]
      rw [e]
      omega
theorem szHs_room (l : List Hdr) : ∀ left : Int, ¬ szHs left l < 0 → left ≤ 1048576 → ∀ (i : Nat) r, l[i]? = some r → r.name.size ≤ 1048576 ∧ r.value.size ≤ 1048576 := by
  induction l with
  | nil => intro left _ _ i r hr; simp at hr
  | cons x l ih =>
    intro left h hl i r hr
    rw [szHs] at h
    by_cases c : szH left x < 0
    · rw [if_pos c] at h; omega
    · rw [if_neg c] at h
      obtain ⟨z1, z2, z3⟩ := szH_room c
      cases i with
      | zero => simp at hr; subst hr; omega
      | succ i => exact ih _ h (by omega) i r (by simpa using hr)
theorem szHL_room {l : List Hdr} {left : Int} (hl : left ≤ 1048576) (h : ¬ szHL left l < 0) : (l.length : Int) ≤ 1048576 ∧ ∀ (i : Nat) r, l[i]? = some r → r.name.size ≤ 1048576 ∧ r.value.size ≤ 1048576 := by
  unfold szHL at h
  by_cases c : left - (l.length : Int) < 0
  · rw [if_pos c] at h; omega
  · rw [if_neg c] at h
    exact ⟨by omega, szHs_room l _ h (by omega)⟩
theorem szHs_le (l : List Hdr) : ∀ left : Int, szHs left l ≤ left ∨ szHs left l < 0 := by
  induction l with
  | nil => intro left; exact .inl (Int.le_refl _)
  | cons x l ih =>
    intro left
    rw [szHs]
    by_cases c : szH left x < 0
    · rw [if_pos c]; right; decide
    · rw [if_neg c]
      have := (szH_room c).2.2
      rcases ih (szH left x) with h | h
      · left; omega
      · right; exact h
theorem szHL_le {l : List Hdr} {left : Int} (h : ¬ szHL left l < 0) : szHL left l ≤ left := by
  unfold szHL at h ⊢
  by_cases c : left - (l.length : Int) < 0
  · rw [if_pos c] at h; omega
  · rw [if_neg c] at h ⊢
    rcases szHs_le l (left - (l.length : Int)) with x | x <;> omega
end Go.Proofs.YtlbagfaiiileoaaDoor
/-
  Rows of bytes: the laws' own helpers over them.
-/
namespace Go.Proofs.YtlbagfaiiileoaaDoor
open Go.ChangeShapes Go.WideShapes Go.ChangeAt Go.RowKit Go.Sort
def BAt (w : World) (b off : Nat) (l : List UInt8) : Prop := ∀ (i : Nat) c, l[i]? = some c → w.cell? ⟨b, off + i, none⟩ = some (.int .u8 (c.toNat : Int))
theorem BAt.keep {w w' : World} {b off : Nat} {l : List UInt8} (h : BAt w b off l) (hb : Below w.heap.size w w') : BAt w' b off l := by
  intro i c hc
  have := h i c hc
  rw [hb.cell (block_lt_of_cell this)]; exact this
def BIn (w : World) (a : Option Addr) (l : List UInt8) : Prop := l = [] ∨ ∃ b off, a = some ⟨b, off, none⟩ ∧ BAt w b off l
theorem BIn.keep {w w' : World} {a : Option Addr} {l : List UInt8} (h : BIn w a l) (hb : Below w.heap.size w w') : BIn w' a l := by
  rcases h with h | ⟨b, off, e, h⟩
  · exact .inl h
  · exact .inr ⟨b, off, e, h.keep hb⟩
structure BMine (W : World) (B : Nat) (l : List UInt8) : Prop where
  at0 : BAt W B 0 l
  free : ∀ o, o < l.length → W.frozen? ⟨B, o, none⟩ = false
  lt : B < W.heap.size
theorem BMine.keep {W W' : World} {B : Nat} {l : List UInt8} (h : BMine W B l) (hb : Below W.heap.size W W') : BMine W' B l :=
  ⟨h.at0.keep hb, fun o ho => by rw [hb.frozen (p := ⟨B, o, none⟩) h.lt]; exact h.free o ho, Nat.lt_of_lt_of_le h.lt hb.size⟩
theorem BMine.in {W : World} {B : Nat} {l : List UInt8} (h : BMine W B l) : BIn W (some ⟨B, 0, none⟩) l := .inr ⟨B, 0, rfl, h.at0⟩
theorem infoByteR : (Tryd.prog.info? 5).map (fun i => (i.zero, i.size, i.bytes)) = some (some (.int .u8 0), 1, 1) := by kernel_rfl
theorem BAt.put {w : World} {G : Nat} {l : List UInt8} {k n : Nat} {c : UInt8} (h : BAt w G 0 (l.take k)) (hr : l[k]? = some c) (hm : HRoom w G n) (hk : k < n) : BAt (w.setCell ⟨G, k, none⟩ (.int .u8 (c.toNat : Int))) G 0 (l.take (k + 1)) := by
  intro i q hq
  have hi : i < k + 1 := by
    have := (List.getElem?_eq_some_iff.1 hq).1
    simp at this; omega
  rw [List.getElem?_take_of_lt hi] at hq
  simp only [Nat.zero_add]
  by_cases e : i = k
  · subst e
    rw [hr] at hq
    obtain rfl := Option.some.inj hq
    obtain ⟨⟨u0, g0⟩, _⟩ := hm i (by omega)
    exact World.cell?_setCell_same _ _ _ g0
  · have hq2 : (l.take k)[i]? = some q := by rw [List.getElem?_take_of_lt (by omega)]; exact hq
    have a1 := h i q hq2
    simp only [Nat.zero_add] at a1
    rw [World.cell?_setCell_other _ _ _ _ (hoff_ne (by omega))]; exact a1
end Go.Proofs.YtlbagfaiiileoaaDoor
/-
  Entries of a store, as they lie in memory.
-/
namespace Go.Proofs.YtlbagfaiiileoaaDoor
open Go.ChangeShapes Go.WideShapes Go.ChangeAt Go.RowKit Go.Sort
/-- An entry, plainly. -/
structure Ent where
  key : ByteArray
  st : Int
  hs : List Hdr
  bl : List UInt8
  t : Int
  g : Int
  l : Int
  s : Int
  e : Int
  b1 : Bool
  b2 : Bool
  ts : List ByteArray
  pins : Int
/-- Where its lists lie. -/
structure EntR where
  ha : Option Addr
  hc : Nat
  ba : Option Addr
  bc : Nat
  ta : Option Addr
  tc : Nat
def entW (x : Ent) (r : EntR) : List Value := [.string x.key, .int .i64 x.st, .slice r.ha x.hs.length r.hc, .slice r.ba x.bl.length r.bc, .int .i64 x.t, .int .i64 x.g, .int .i64 x.l, .int .i64 x.s, .int .i64 x.e, .bool x.b1, .bool x.b2, .slice r.ta x.ts.length r.tc, .int .i64 x.pins]
def entV (x : Ent) (r : EntR) : Value := .agg (entW x r).toArray
/-- Its lists, in a world. -/
structure EntIn (w : World) (x : Ent) (r : EntR) : Prop where
  h : HdsIn w r.ha x.hs
  b : BIn w r.ba x.bl
  k : TIn w r.ta x.ts
  hc : x.hs.length ≤ r.hc
  bc : x.bl.length ≤ r.bc
  tc : x.ts.length ≤ r.tc
theorem EntIn.keep {w w' : World} {x : Ent} {r : EntR} (k : EntIn w x r) (hb : Below w.heap.size w w') : EntIn w' x r := ⟨k.h.keep hb, k.b.keep hb, k.k.keep hb, k.hc, k.bc, k.tc⟩
/-- Entries one behind the other: thirteen cells each. -/
def EntsAt (w : World) (b off : Nat) (l : List (Ent × EntR)) : Prop := ∀ (i : Nat) q, l[i]? = some q → (∀ j, j < 13 → w.cell? ⟨b, off + i * 13 + j, none⟩ = (entW q.1 q.2)[j]?) ∧ EntIn w q.1 q.2
theorem EntsAt.keep {w w' : World} {b off : Nat} {l : List (Ent × EntR)} (h : EntsAt w b off l) (hb : Below w.heap.size w w') : EntsAt w' b off l := by
  intro i q hq
  obtain ⟨h1, h2⟩ := h i q hq
  refine ⟨fun j hj => ?_, h2.keep hb⟩
  have c := h1 j hj
  have hlt : b < w.heap.size := by
    have c0 := h1 0 (by omega)
    exact block_lt_of_cell (c0.trans rfl)
  rw [hb.cell (p := ⟨b, off + i * 13 + j, none⟩) hlt]
  exact c
def EntsIn (w : World) (a : Option Addr) (l : List (Ent × EntR)) : Prop := l = [] ∨ ∃ b off, a = some ⟨b, off, none⟩ ∧ EntsAt w b off l
theorem EntsIn.keep {w w' : World} {a : Option Addr} {l : List (Ent × EntR)} (h : EntsIn w a l) (hb : Below w.heap.size w w') : EntsIn w' a l := by
  rcases h with h | ⟨b, off, e, h⟩
  · exact .inl h
  · exact .inr ⟨b, off, e, h.keep hb⟩
/-- Sizes that came in. -/
structure EntSm (x : Ent) : Prop where
  key : x.key.size ≤ maxLen
  hl : x.hs.length ≤ maxLen
  hs : SmallHdrs x.hs
  bl : x.bl.length ≤ maxLen
  tl : x.ts.length ≤ maxLen
  ts : ∀ t ∈ x.ts, t.size ≤ maxLen
end Go.Proofs.YtlbagfaiiileoaaDoor
/-
  Thirteen cells that may be written.
-/
namespace Go.Proofs.YtlbagfaiiileoaaDoor
open Go.ChangeShapes Go.WideShapes Go.ChangeAt Go.RowKit
structure E13 (w : World) (b : Nat) (v0 v1 v2 v3 v4 v5 v6 v7 v8 v9 v10 v11 v12 : Value) : Prop where
  c0 : w.cell? ⟨b, 0, none⟩ = some v0
  c1 : w.cell? ⟨b, 1, none⟩ = some v1
  c2 : w.cell? ⟨b, 2, none⟩ = some v2
  c3 : w.cell? ⟨b, 3, none⟩ = some v3
  c4 : w.cell? ⟨b, 4, none⟩ = some v4
  c5 : w.cell? ⟨b, 5, none⟩ = some v5
  c6 : w.cell? ⟨b, 6, none⟩ = some v6
  c7 : w.cell? ⟨b, 7, none⟩ = some v7
  c8 : w.cell? ⟨b, 8, none⟩ = some v8
  c9 : w.cell? ⟨b, 9, none⟩ = some v9
  c10 : w.cell? ⟨b, 10, none⟩ = some v10
  c11 : w.cell? ⟨b, 11, none⟩ = some v11
  c12 : w.cell? ⟨b, 12, none⟩ = some v12
  fr : ∀ o, w.frozen? ⟨b, o, none⟩ = false
  lt : b < w.heap.size
section
variable {w w' : World} {b : Nat} {v0 v1 v2 v3 v4 v5 v6 v7 v8 v9 v10 v11 v12 : Value}
theorem E13.keep (k : E13 w b v0 v1 v2 v3 v4 v5 v6 v7 v8 v9 v10 v11 v12) (hb : Below w.heap.size w w') : E13 w' b v0 v1 v2 v3 v4 v5 v6 v7 v8 v9 v10 v11 v12 :=
  ⟨by rw [hb.cell (p := ⟨b, 0, none⟩) k.lt]; exact k.c0, by rw [hb.cell (p := ⟨b, 1, none⟩) k.lt]; exact k.c1, by rw [hb.cell (p := ⟨b, 2, none⟩) k.lt]; exact k.c2, by rw [hb.cell (p := ⟨b, 3, none⟩) k.lt]; exact k.c3, by rw [hb.cell (p := ⟨b, 4, none⟩) k.lt]; exact k.c4, by rw [hb.cell (p := ⟨b, 5, none⟩) k.lt]; exact k.c5, by rw [hb.cell (p := ⟨b, 6, none⟩) k.lt]; exact k.c6, by rw [hb.cell (p := ⟨b, 7, none⟩) k.lt]; exact k.c7, by rw [hb.cell (p := ⟨b, 8, none⟩) k.lt]; exact k.c8, by rw [hb.cell (p := ⟨b, 9, none⟩) k.lt]; exact k.c9, by rw [hb.cell (p := ⟨b, 10, none⟩) k.lt]; exact k.c10, by rw [hb.cell (p := ⟨b, 11, none⟩) k.lt]; exact k.c11, by rw [hb.cell (p := ⟨b, 12, none⟩) k.lt]; exact k.c12, fun o => by rw [hb.frozen (p := ⟨b, o, none⟩) k.lt]; exact k.fr o, Nat.lt_of_lt_of_le k.lt hb.size⟩
theorem E13.new (w : World) (v0 v1 v2 v3 v4 v5 v6 v7 v8 v9 v10 v11 v12 : Value) (t : TypeId) : E13 (w.alloc (.cells #[v0, v1, v2, v3, v4, v5, v6, v7, v8, v9, v10, v11, v12] t)) w.heap.size v0 v1 v2 v3 v4 v5 v6 v7 v8 v9 v10 v11 v12 := ⟨by simp, by simp, by simp, by simp, by simp, by simp, by simp, by simp, by simp, by simp, by simp, by simp, by simp, fun o => by simp, by simp⟩
theorem E13.off (k : E13 w b v0 v1 v2 v3 v4 v5 v6 v7 v8 v9 v10 v11 v12) {B i : Nat} {x : Value} (h : B ≠ b) : E13 (w.setCell ⟨B, i, none⟩ x) b v0 v1 v2 v3 v4 v5 v6 v7 v8 v9 v10 v11 v12 := by
  have ne : ∀ o : Nat, (⟨B, i, none⟩ : Addr) ≠ ⟨b, o, none⟩ := fun o q => h (congrArg Addr.block q)
  exact ⟨by rw [World.cell?_setCell_other _ _ _ _ (ne _)]; exact k.c0, by rw [World.cell?_setCell_other _ _ _ _ (ne _)]; exact k.c1, by rw [World.cell?_setCell_other _ _ _ _ (ne _)]; exact k.c2, by rw [World.cell?_setCell_other _ _ _ _ (ne _)]; exact k.c3, by rw [World.cell?_setCell_other _ _ _ _ (ne _)]; exact k.c4, by rw [World.cell?_setCell_other _ _ _ _ (ne _)]; exact k.c5, by rw [World.cell?_setCell_other _ _ _ _ (ne _)]; exact k.c6, by rw [World.cell?_setCell_other _ _ _ _ (ne _)]; exact k.c7, by rw [World.cell?_setCell_other _ _ _ _ (ne _)]; exact k.c8, by rw [World.cell?_setCell_other _ _ _ _ (ne _)]; exact k.c9, by rw [World.cell?_setCell_other _ _ _ _ (ne _)]; exact k.c10, by rw [World.cell?_setCell_other _ _ _ _ (ne _)]; exact k.c11, by rw [World.cell?_setCell_other _ _ _ _ (ne _)]; exact k.c12, fun o => by rw [World.frozen?_setCell]; exact k.fr o, by simpa using k.lt⟩
theorem E13.set0 (k : E13 w b v0 v1 v2 v3 v4 v5 v6 v7 v8 v9 v10 v11 v12) (x : Value) : E13 (w.setCell ⟨b, 0, none⟩ x) b x v1 v2 v3 v4 v5 v6 v7 v8 v9 v10 v11 v12 :=
  ⟨World.cell?_setCell_same _ _ _ k.c0, by rw [World.cell?_setCell_other _ _ _ _ (by intro q; have := congrArg Addr.off q; simp at this)]; exact k.c1, by rw [World.cell?_setCell_other _ _ _ _ (by intro q; have := congrArg Addr.off q; simp at this)]; exact k.c2, by rw [World.cell?_setCell_other _ _ _ _ (by intro q; have := congrArg Addr.off q; simp at this)]; exact k.c3, by rw [World.cell?_setCell_other _ _ _ _ (by intro q; have := congrArg Addr.off q; simp at this)]; exact k.c4, by rw [World.cell?_setCell_other _ _ _ _ (by intro q; have := congrArg Addr.off q; simp at this)]; exact k.c5, by rw [World.cell?_setCell_other _ _ _ _ (by intro q; have := congrArg Addr.off q; simp at this)]; exact k.c6, by rw [World.cell?_setCell_other _ _ _ _ (by intro q; have := congrArg Addr.off q; simp at this)]; exact k.c7, by rw [World.cell?_setCell_other _ _ _ _ (by intro q; have := congrArg Addr.off q; simp at this)]; exact k.c8, by rw [World.cell?_setCell_other _ _ _ _ (by intro q; have := congrArg Addr.off q; simp at this)]; exact k.c9, by rw [World.cell?_setCell_other _ _ _ _ (by intro q; have := congrArg Addr.off q; simp at this)]; exact k.c10, by rw [World.cell?_setCell_other _ _ _ _ (by intro q; have := congrArg Addr.off q; simp at this)]; exact k.c11, by rw [World.cell?_setCell_other _ _ _ _ (by intro q; have := congrArg Addr.off q; simp at this)]; exact k.c12, fun o => by rw [World.frozen?_setCell]; exact k.fr o, by simpa using k.lt⟩
theorem E13.set1 (k : E13 w b v0 v1 v2 v3 v4 v5 v6 v7 v8 v9 v10 v11 v12) (x : Value) : E13 (w.setCell ⟨b, 1, none⟩ x) b v0 x v2 v3 v4 v5 v6 v7 v8 v9 v10 v11 v12 :=
  ⟨by rw [World.cell?_setCell_other _ _ _ _ (by intro q; have := congrArg Addr.off q; simp at this)]; exact k.c0, World.cell?_setCell_same _ _ _ k.c1, by rw [World.cell?_setCell_other _ _ _ _ (by intro q; have := congrArg Addr.off q; simp at this)]; exact k.c2, by rw [World.cell?_setCell_other _ _ _ _ (by intro q; have := congrArg Addr.off q; simp at this)]; exact k.c3, by rw [World.cell?_setCell_other _ _ _ _ (by intro q; have := congrArg Addr.off q; simp at this)]; exact k.c4, by rw [World.cell?_setCell_other _ _ _ _ (by intro q; have := congrArg Addr.off q; simp at this)]; exact k.c5, by rw [World.cell?_setCell_other _ _ _ _ (by intro q; have := congrArg Addr.off q; simp at this)]; exact k.c6, by rw [World.cell?_setCell_other _ _ _ _ (by intro q; have := congrArg Addr.off q; simp at this)]; exact k.c7, by rw [World.cell?_setCell_other _ _ _ _ (by intro q; have := congrArg Addr.off q; simp at this)]; exact k.c8, by rw [World.cell?_setCell_other _ _ _ _ (by intro q; have := congrArg Addr.off q; simp at this)]; exact k.c9, by rw [World.cell?_setCell_other _ _ _ _ (by intro q; have := congrArg Addr.off q; simp at this)]; exact k.c10, by rw [World.cell?_setCell_other _ _ _ _ (by intro q; have := congrArg Addr.off q; simp at this)]; exact k.c11, by rw [World.cell?_setCell_other _ _ _ _ (by intro q; have := congrArg Addr.off q; simp at this)]; exact k.c12, fun o => by rw [World.frozen?_setCell]; exact k.fr o, by simpa using k.lt⟩
theorem E13.set2 (k : E13 w b v0 v1 v2 v3 v4 v5 v6 v7 v8 v9 v10 v11 v12) (x : Value) : E13 (w.setCell ⟨b, 2, none⟩ x) b v0 v1 x v3 v4 v5 v6 v7 v8 v9 v10 v11 v12 :=
  ⟨by rw [World.cell?_setCell_other _ _ _ _ (by intro q; have := congrArg Addr.off q; simp at this)]; exact k.c0, by rw [World.cell?_setCell_other _ _ _ _ (by intro q; have := congrArg Addr.off q; simp at this)]; exact k.c1, World.cell?_setCell_same _ _ _ k.c2, by rw [World.cell?_setCell_other _ _ _ _ (by intro q; have := congrArg Addr.off q; simp at this)]; exact k.c3, by rw [World.cell?_setCell_other _ _ _ _ (by intro q; have := congrArg Addr.off q; simp at this)]; exact k.c4, by rw [World.cell?_setCell_other _ _ _ _ (by intro q; have := congrArg Addr.off q; simp at this)]; exact k.c5, by rw [World.cell?_setCell_other _ _ _ _ (by intro q; have := congrArg Addr.off q; simp at this)]; exact k.c6, by rw [World.cell?_setCell_other _ _ _ _ (by intro q; have := congrArg Addr.off q; simp at this)]; exact k.c7, by rw [World.cell?_setCell_other _ _ _ _ (by intro q; have := congrArg Addr.off q; simp at this)]; exact k.c8, by rw [World.cell?_setCell_other _ _ _ _ (by intro q; have := congrArg Addr.off q; simp at this)]; exact k.c9, by rw [World.cell?_setCell_other _ _ _ _ (by intro q; have := congrArg Addr.off q; simp at this)]; exact k.c10, by rw [World.cell?_setCell_other _ _ _ _ (by intro q; have := congrArg Addr.off q; simp at this)]; exact k.c11, by rw [World.cell?_setCell_other _ _ _ _ (by intro q; have := congrArg Addr.off q; simp at this)]; exact k.c12, fun o => by rw [World.frozen?_setCell]; exact k.fr o, by simpa using k.lt⟩
theorem E13.set3 (k : E13 w b v0 v1 v2 v3 v4 v5 v6 v7 v8 v9 v10 v11 v12) (x : Value) : E13 (w.setCell ⟨b, 3, none⟩ x) b v0 v1 v2 x v4 v5 v6 v7 v8 v9 v10 v11 v12 :=
  ⟨by rw [World.cell?_setCell_other _ _ _ _ (by intro q; have := congrArg Addr.off q; simp at this)]; exact k.c0, by rw [World.cell?_setCell_other _ _ _ _ (by intro q; have := congrArg Addr.off q; simp at this)]; exact k.c1, by rw [World.cell?_setCell_other _ _ _ _ (by intro q; have := congrArg Addr.off q; simp at this)]; exact k.c2, World.cell?_setCell_same _ _ _ k.c3, by rw [World.cell?_setCell_other _ _ _ _ (by intro q; have := congrArg Addr.off q; simp at this)]; exact k.c4, by rw [World.cell?_setCell_other _ _ _ _ (by intro q; have := congrArg Addr.off q; simp at this)]; exact k.c5, by rw [World.cell?_setCell_other _ _ _ _ (by intro q; have := congrArg Addr.off q; simp at this)]; exact k.c6, by rw [World.cell?_setCell_other _ _ _ _ (by intro q; have := congrArg Addr.off q; simp at this)]; exact k.c7, by rw [World.cell?_setCell_other _ _ _ _ (by intro q; have := congrArg Addr.off q; simp at this)]; exact k.c8, by rw [World.cell?_setCell_other _ _ _ _ (by intro q; have := congrArg Addr.off q; simp at this)]; exact k.c9, by rw [World.cell?_setCell_other _ _ _ _ (by intro q; have := congrArg Addr.off q; simp at this)]; exact k.c10, by rw [World.cell?_setCell_other _ _ _ _ (by intro q; have := congrArg Addr.off q; simp at this)]; exact k.c11, by rw [World.cell?_setCell_other _ _ _ _ (by intro q; have := congrArg Addr.off q; simp at this)]; exact k.c12, fun o => by rw [World.frozen?_setCell]; exact k.fr o, by simpa using k.lt⟩
theorem E13.set4 (k : E13 w b v0 v1 v2 v3 v4 v5 v6 v7 v8 v9 v10 v11 v12) (x : Value) : E13 (w.setCell ⟨b, 4, none⟩ x) b v0 v1 v2 v3 x v5 v6 v7 v8 v9 v10 v11 v12 :=
  ⟨by rw [World.cell?_setCell_other _ _ _ _ (by intro q; have := congrArg Addr.off q; simp at this)]; exact k.c0, by rw [World.cell?_setCell_other _ _ _ _ (by intro q; have := congrArg Addr.off q; simp at this)]; exact k.c1, by rw [World.cell?_setCell_other _ _ _ _ (by intro q; have := congrArg Addr.off q; simp at this)]; exact k.c2, by rw [World.cell?_setCell_other _ _ _ _ (by intro q; have := congrArg Addr.off q; simp at this)]; exact k.c3, World.cell?_setCell_same _ _ _ k.c4, by rw [World.cell?_setCell_other _ _ _ _ (by intro q; have := congrArg Addr.off q; simp at this)]; exact k.c5, by rw [World.cell?_setCell_other _ _ _ _ (by intro q; have := congrArg Addr.off q; simp at this)]; exact k.c6, by rw [World.cell?_setCell_other _ _ _ _ (by intro q; have := congrArg Addr.off q; simp at this)]; exact k.c7, by rw [World.cell?_setCell_other _ _ _ _ (by intro q; have := congrArg Addr.off q; simp at this)]; exact k.c8, by rw [World.cell?_setCell_other _ _ _ _ (by intro q; have := congrArg Addr.off q; simp at this)]; exact k.c9, by rw [World.cell?_setCell_other _ _ _ _ (by intro q; have := congrArg Addr.off q; simp at this)]; exact k.c10, by rw [World.cell?_setCell_other _ _ _ _ (by intro q; have := congrArg Addr.off q; simp at this)]; exact k.c11, by rw [World.cell?_setCell_other _ _ _ _ (by intro q; have := congrArg Addr.off q; simp at this)]; exact k.c12, fun o => by rw [World.frozen?_setCell]; exact k.fr o, by simpa using k.lt⟩
theorem E13.set5 (k : E13 w b v0 v1 v2 v3 v4 v5 v6 v7 v8 v9 v10 v11 v12) (x : Value) : E13 (w.setCell ⟨b, 5, none⟩ x) b v0 v1 v2 v3 v4 x v6 v7 v8 v9 v10 v11 v12 :=
  ⟨by rw [World.cell?_setCell_other _ _ _ _ (by intro q; have := congrArg Addr.off q; simp at this)]; exact k.c0, by rw [World.cell?_setCell_other _ _ _ _ (by intro q; have := congrArg Addr.off q; simp at this)]; exact k.c1, by rw [World.cell?_setCell_other _ _ _ _ (by intro q; have := congrArg Addr.off q; simp at this)]; exact k.c2, by rw [World.cell?_setCell_other _ _ _ _ (by intro q; have := congrArg Addr.off q; simp at this)]; exact k.c3, by rw [World.cell?_setCell_other _ _ _ _ (by intro q; have := congrArg Addr.off q; simp at this)]; exact k.c4, World.cell?_setCell_same _ _ _ k.c5, by rw [World.cell?_setCell_other _ _ _ _ (by intro q; have := congrArg Addr.off q; simp at this)]; exact k.c6, by rw [World.cell?_setCell_other _ _ _ _ (by intro q; have := congrArg Addr.off q; simp at this)]; exact k.c7, by rw [World.cell?_setCell_other _ _ _ _ (by intro q; have := congrArg Addr.off q; simp at this)]; exact k.c8, by rw [World.cell?_setCell_other _ _ _ _ (by intro q; have := congrArg Addr.off q; simp at this)]; exact k.c9, by rw [World.cell?_setCell_other _ _ _ _ (by intro q; have := congrArg Addr.off q; simp at this)]; exact k.c10, by rw [World.cell?_setCell_other _ _ _ _ (by intro q; have := congrArg Addr.off q; simp at this)]; exact k.c11, by rw [World.cell?_setCell_other _ _ _ _ (by intro q; have := congrArg Addr.off q; simp at this)]; exact k.c12, fun o => by rw [World.frozen?_setCell]; exact k.fr o, by simpa using k.lt⟩
theorem E13.set6 (k : E13 w b v0 v1 v2 v3 v4 v5 v6 v7 v8 v9 v10 v11 v12) (x : Value) : E13 (w.setCell ⟨b, 6, none⟩ x) b v0 v1 v2 v3 v4 v5 x v7 v8 v9 v10 v11 v12 :=
  ⟨by rw [World.cell?_setCell_other _ _ _ _ (by intro q; have := congrArg Addr.off q; simp at this)]; exact k.c0, by rw [World.cell?_setCell_other _ _ _ _ (by intro q; have := congrArg Addr.off q; simp at this)]; exact k.c1, by rw [World.cell?_setCell_other _ _ _ _ (by intro q; have := congrArg Addr.off q; simp at this)]; exact k.c2, by rw [World.cell?_setCell_other _ _ _ _ (by intro q; have := congrArg Addr.off q; simp at this)]; exact k.c3, by rw [World.cell?_setCell_other _ _ _ _ (by intro q; have := congrArg Addr.off q; simp at this)]; exact k.c4, by rw [World.cell?_setCell_other _ _ _ _ (by intro q; have := congrArg Addr.off q; simp at this)]; exact k.c5, World.cell?_setCell_same _ _ _ k.c6, by rw [World.cell?_setCell_other _ _ _ _ (by intro q; have := congrArg Addr.off q; simp at this)]; exact k.c7, by rw [World.cell?_setCell_other _ _ _ _ (by intro q; have := congrArg Addr.off q; simp at this)]; exact k.c8, by rw [World.cell?_setCell_other _ _ _ _ (by intro q; have := congrArg Addr.off q; simp at this)]; exact k.c9, by rw [World.cell?_setCell_other _ _ _ _ (by intro q; have := congrArg Addr.off q; simp at this)]; exact k.c10, by rw [World.cell?_setCell_other _ _ _ _ (by intro q; have := congrArg Addr.off q; simp at this)]; exact k.c11, by rw [World.cell?_setCell_other _ _ _ _ (by intro q; have := congrArg Addr.off q; simp at this)]; exact k.c12, fun o => by rw [World.frozen?_setCell]; exact k.fr o, by simpa using k.lt⟩
theorem E13.set7 (k : E13 w b v0 v1 v2 v3 v4 v5 v6 v7 v8 v9 v10 v11 v12) (x : Value) : E13 (w.setCell ⟨b, 7, none⟩ x) b v0 v1 v2 v3 v4 v5 v6 x v8 v9 v10 v11 v12 :=
  ⟨by rw [World.cell?_setCell_other _ _ _ _ (by intro q; have := congrArg Addr.off q; simp at this)]; exact k.c0, by rw [World.cell?_setCell_other _ _ _ _ (by intro q; have := congrArg Addr.off q; simp at this)]; exact k.c1, by rw [World.cell?_setCell_other _ _ _ _ (by intro q; have := congrArg Addr.off q; simp at this)]; exact k.c2, by rw [World.cell?_setCell_other _ _ _ _ (by intro q; have := congrArg Addr.off q; simp at this)]; exact k.c3, by rw [World.cell?_setCell_other _ _ _ _ (by intro q; have := congrArg Addr.off q; simp at this)]; exact k.c4, by rw [World.cell?_setCell_other _ _ _ _ (by intro q; have := congrArg Addr.off q; simp at this)]; exact k.c5, by rw [World.cell?_setCell_other _ _ _ _ (by intro q; have := congrArg Addr.off q; simp at this)]; exact k.c6, World.cell?_setCell_same _ _ _ k.c7, by rw [World.cell?_setCell_other _ _ _ _ (by intro q; have := congrArg Addr.off q; simp at this)]; exact k.c8, by rw [World.cell?_setCell_other _ _ _ _ (by intro q; have := congrArg Addr.off q; simp at this)]; exact k.c9, by rw [World.cell?_setCell_other _ _ _ _ (by intro q; have := congrArg Addr.off q; simp at this)]; exact k.c10, by rw [World.cell?_setCell_other _ _ _ _ (by intro q; have := congrArg Addr.off q; simp at this)]; exact k.c11, by rw [World.cell?_setCell_other _ _ _ _ (by intro q; have := congrArg Addr.off q; simp at this)]; exact k.c12, fun o => by rw [World.frozen?_setCell]; exact k.fr o, by simpa using k.lt⟩
theorem E13.set8 (k : E13 w b v0 v1 v2 v3 v4 v5 v6 v7 v8 v9 v10 v11 v12) (x : Value) : E13 (w.setCell ⟨b, 8, none⟩ x) b v0 v1 v2 v3 v4 v5 v6 v7 x v9 v10 v11 v12 :=
  ⟨by rw [World.cell?_setCell_other _ _ _ _ (by intro q; have := congrArg Addr.off q; simp at this)]; exact k.c0, by rw [World.cell?_setCell_other _ _ _ _ (by intro q; have := congrArg Addr.off q; simp at this)]; exact k.c1, by rw [World.cell?_setCell_other _ _ _ _ (by intro q; have := congrArg Addr.off q; simp at this)]; exact k.c2, by rw [World.cell?_setCell_other _ _ _ _ (by intro q; have := congrArg Addr.off q; simp at this)]; exact k.c3, by rw [World.cell?_setCell_other _ _ _ _ (by intro q; have := congrArg Addr.off q; simp at this)]; exact k.c4, by rw [World.cell?_setCell_other _ _ _ _ (by intro q; have := congrArg Addr.off q; simp at this)]; exact k.c5, by rw [World.cell?_setCell_other _ _ _ _ (by intro q; have := congrArg Addr.off q; simp at this)]; exact k.c6, by rw [World.cell?_setCell_other _ _ _ _ (by intro q; have := congrArg Addr.off q; simp at this)]; exact k.c7, World.cell?_setCell_same _ _ _ k.c8, by rw [World.cell?_setCell_other _ _ _ _ (by intro q; have := congrArg Addr.off q; simp at this)]; exact k.c9, by rw [World.cell?_setCell_other _ _ _ _ (by intro q; have := congrArg Addr.off q; simp at this)]; exact k.c10, by rw [World.cell?_setCell_other _ _ _ _ (by intro q; have := congrArg Addr.off q; simp at this)]; exact k.c11, by rw [World.cell?_setCell_other _ _ _ _ (by intro q; have := congrArg Addr.off q; simp at this)]; exact k.c12, fun o => by rw [World.frozen?_setCell]; exact k.fr o, by simpa using k.lt⟩
theorem E13.set9 (k : E13 w b v0 v1 v2 v3 v4 v5 v6 v7 v8 v9 v10 v11 v12) (x : Value) : E13 (w.setCell ⟨b, 9, none⟩ x) b v0 v1 v2 v3 v4 v5 v6 v7 v8 x v10 v11 v12 :=
  ⟨by rw [World.cell?_setCell_other _ _ _ _ (by intro q; have := congrArg Addr.off q; simp at this)]; exact k.c0, by rw [World.cell?_setCell_other _ _ _ _ (by intro q; have := congrArg Addr.off q; simp at this)]; exact k.c1, by rw [World.cell?_setCell_other _ _ _ _ (by intro q; have := congrArg Addr.off q; simp at this)]; exact k.c2, by rw [World.cell?_setCell_other _ _ _ _ (by intro q; have := congrArg Addr.off q; simp at this)]; exact k.c3, by rw [World.cell?_setCell_other _ _ _ _ (by intro q; have := congrArg Addr.off q; simp at this)]; exact k.c4, by rw [World.cell?_setCell_other _ _ _ _ (by intro q; have := congrArg Addr.off q; simp at this)]; exact k.c5, by rw [World.cell?_setCell_other _ _ _ _ (by intro q; have := congrArg Addr.off q; simp at this)]; exact k.c6, by rw [World.cell?_setCell_other _ _ _ _ (by intro q; have := congrArg Addr.off q; simp at this)]; exact k.c7, by rw [World.cell?_setCell_other _ _ _ _ (by intro q; have := congrArg Addr.off q; simp at this)]; exact k.c8, World.cell?_setCell_same _ _ _ k.c9, by rw [World.cell?_setCell_other _ _ _ _ (by intro q; have := congrArg Addr.off q; simp at this)]; exact k.c10, by rw [World.cell?_setCell_other _ _ _ _ (by intro q; have := congrArg Addr.off q; simp at this)]; exact k.c11, by rw [World.cell?_setCell_other _ _ _ _ (by intro q; have := congrArg Addr.off q; simp at this)]; exact k.c12, fun o => by rw [World.frozen?_setCell]; exact k.fr o, by simpa using k.lt⟩
theorem E13.set10 (k : E13 w b v0 v1 v2 v3 v4 v5 v6 v7 v8 v9 v10 v11 v12) (x : Value) : E13 (w.setCell ⟨b, 10, none⟩ x) b v0 v1 v2 v3 v4 v5 v6 v7 v8 v9 x v11 v12 :=
  ⟨by rw [World.cell?_setCell_other _ _ _ _ (by intro q; have := congrArg Addr.off q; simp at this)]; exact k.c0, by rw [World.cell?_setCell_other _ _ _ _ (by intro q; have := congrArg Addr.off q; simp at this)]; exact k.c1, by rw [World.cell?_setCell_other _ _ _ _ (by intro q; have := congrArg Addr.off q; simp at this)]; exact k.c2, by rw [World.cell?_setCell_other _ _ _ _ (by intro q; have := congrArg Addr.off q; simp at this)]; exact k.c3, by rw [World.cell?_setCell_other _ _ _ _ (by intro q; have := congrArg Addr.off q; simp at this)]; exact k.c4, by rw [World.cell?_setCell_other _ _ _ _ (by intro q; have := congrArg Addr.off q; simp at this)]; exact k.c5, by rw [World.cell?_setCell_other _ _ _ _ (by intro q; have := congrArg Addr.off q; simp at this)]; exact k.c6, by rw [World.cell?_setCell_other _ _ _ _ (by intro q; have := congrArg Addr.off q; simp at this)]; exact k.c7, by rw [World.cell?_setCell_other _ _ _ _ (by intro q; have := congrArg Addr.off q; simp at this)]; exact k.c8, by rw [World.cell?_setCell_other _ _ _ _ (by intro q; have := congrArg Addr.off q; simp at this)]; exact k.c9, World.cell?_setCell_same _ _ _ k.c10, by rw [World.cell?_setCell_other _ _ _ _ (by intro q; have := congrArg Addr.off q; simp at this)]; exact k.c11, by rw [World.cell?_setCell_other _ _ _ _ (by intro q; have := congrArg Addr.off q; simp at this)]; exact k.c12, fun o => by rw [World.frozen?_setCell]; exact k.fr o, by simpa using k.lt⟩
theorem E13.set11 (k : E13 w b v0 v1 v2 v3 v4 v5 v6 v7 v8 v9 v10 v11 v12) (x : Value) : E13 (w.setCell ⟨b, 11, none⟩ x) b v0 v1 v2 v3 v4 v5 v6 v7 v8 v9 v10 x v12 :=
  ⟨by rw [World.cell?_setCell_other _ _ _ _ (by intro q; have := congrArg Addr.off q; simp at this)]; exact k.c0, by rw [World.cell?_setCell_other _ _ _ _ (by intro q; have := congrArg Addr.off q; simp at this)]; exact k.c1, by rw [World.cell?_setCell_other _ _ _ _ (by intro q; have := congrArg Addr.off q; simp at this)]; exact k.c2, by rw [World.cell?_setCell_other _ _ _ _ (by intro q; have := congrArg Addr.off q; simp at this)]; exact k.c3, by rw [World.cell?_setCell_other _ _ _ _ (by intro q; have := congrArg Addr.off q; simp at this)]; exact k.c4, by rw [World.cell?_setCell_other _ _ _ _ (by intro q; have := congrArg Addr.off q; simp at this)]; exact k.c5, by rw [World.cell?_setCell_other _ _ _ _ (by intro q; have := congrArg Addr.off q; simp at this)]; exact k.c6, by rw [World.cell?_setCell_other _ _ _ _ (by intro q; have := congrArg Addr.off q; simp at this)]; exact k.c7, by rw [World.cell?_setCell_other _ _ _ _ (by intro q; have := congrArg Addr.off q; simp at this)]; exact k.c8, by rw [World.cell?_setCell_other _ _ _ _ (by intro q; have := congrArg Addr.off q; simp at this)]; exact k.c9, by rw [World.cell?_setCell_other _ _ _ _ (by intro q; have := congrArg Addr.off q; simp at this)]; exact k.c10, World.cell?_setCell_same _ _ _ k.c11, by rw [World.cell?_setCell_other _ _ _ _ (by intro q; have := congrArg Addr.off q; simp at this)]; exact k.c12, fun o => by rw [World.frozen?_setCell]; exact k.fr o, by simpa using k.lt⟩
theorem E13.set12 (k : E13 w b v0 v1 v2 v3 v4 v5 v6 v7 v8 v9 v10 v11 v12) (x : Value) : E13 (w.setCell ⟨b, 12, none⟩ x) b v0 v1 v2 v3 v4 v5 v6 v7 v8 v9 v10 v11 x :=
  ⟨by rw [World.cell?_setCell_other _ _ _ _ (by intro q; have := congrArg Addr.off q; simp at this)]; exact k.c0, by rw [World.cell?_setCell_other _ _ _ _ (by intro q; have := congrArg Addr.off q; simp at this)]; exact k.c1, by rw [World.cell?_setCell_other _ _ _ _ (by intro q; have := congrArg Addr.off q; simp at this)]; exact k.c2, by rw [World.cell?_setCell_other _ _ _ _ (by intro q; have := congrArg Addr.off q; simp at this)]; exact k.c3, by rw [World.cell?_setCell_other _ _ _ _ (by intro q; have := congrArg Addr.off q; simp at this)]; exact k.c4, by rw [World.cell?_setCell_other _ _ _ _ (by intro q; have := congrArg Addr.off q; simp at this)]; exact k.c5, by rw [World.cell?_setCell_other _ _ _ _ (by intro q; have := congrArg Addr.off q; simp at this)]; exact k.c6, by rw [World.cell?_setCell_other _ _ _ _ (by intro q; have := congrArg Addr.off q; simp at this)]; exact k.c7, by rw [World.cell?_setCell_other _ _ _ _ (by intro q; have := congrArg Addr.off q; simp at this)]; exact k.c8, by rw [World.cell?_setCell_other _ _ _ _ (by intro q; have := congrArg Addr.off q; simp at this)]; exact k.c9, by rw [World.cell?_setCell_other _ _ _ _ (by intro q; have := congrArg Addr.off q; simp at this)]; exact k.c10, by rw [World.cell?_setCell_other _ _ _ _ (by intro q; have := congrArg Addr.off q; simp at this)]; exact k.c11, World.cell?_setCell_same _ _ _ k.c12, fun o => by rw [World.frozen?_setCell]; exact k.fr o, by simpa using k.lt⟩
end
theorem E13.all {X : World} {b : Nat} {v0 v1 v2 v3 v4 v5 v6 v7 v8 v9 v10 v11 v12 : Value} (k : E13 X b v0 v1 v2 v3 v4 v5 v6 v7 v8 v9 v10 v11 v12) (x0 x1 x2 x3 x4 x5 x6 x7 x8 x9 x10 x11 x12 : Value) : E13 (((((((((((((X.setCell ⟨b, 0, none⟩ x0).setCell ⟨b, 1, none⟩ x1).setCell ⟨b, 2, none⟩ x2).setCell ⟨b, 3, none⟩ x3).setCell ⟨b, 4, none⟩ x4).setCell ⟨b, 5, none⟩ x5).setCell ⟨b, 6, none⟩ x6).setCell ⟨b, 7, none⟩ x7).setCell ⟨b, 8, none⟩ x8).setCell ⟨b, 9, none⟩ x9).setCell ⟨b, 10, none⟩ x10).setCell ⟨b, 11, none⟩ x11).setCell ⟨b, 12, none⟩ x12) b x0 x1 x2 x3 x4 x5 x6 x7 x8 x9 x10 x11 x12 := (((((((((((((k.set0 _).set1 _).set2 _).set3 _).set4 _).set5 _).set6 _).set7 _).set8 _).set9 _).set10 _).set11 _).set12 _)
end Go.Proofs.YtlbagfaiiileoaaDoor
/-
  What is kept with an answer, handed over by the laws.
-/
namespace Go.Proofs.YtlbagfaiiileoaaDoor
open Go.ChangeShapes Go.WideShapes Go.ChangeAt Go.RowKit Go.Sort
end Go.Proofs.YtlbagfaiiileoaaDoor
/-
  What is kept with an answer, compared with itself.
-/
namespace Go.Proofs.YtlbagfaiiileoaaDoor
open Go.ChangeShapes Go.WideShapes Go.ChangeAt Go.RowKit Go.Sort
end Go.Proofs.YtlbagfaiiileoaaDoor
/-
  The laws' comparing of two lists of items that are alike.
-/
namespace Go.Proofs.YtlbagfaiiileoaaDoor
open Go.ChangeShapes Go.WideShapes Go.ChangeAt Go.RowKit Go.Sort
end Go.Proofs.YtlbagfaiiileoaaDoor
/-
  Entries, handed over by the laws: how much room they take, copies, comparisons.
-/
namespace Go.Proofs.YtlbagfaiiileoaaDoor
open Go.ChangeShapes Go.WideShapes Go.ChangeAt Go.RowKit Go.Sort
/-- How much room is left behind an entry; -1: none. -/
def szE (left : Int) (key : ByteArray) (hs : List Hdr) (bs : List UInt8) (ts : List ByteArray) : Int :=
  if left - (key.size : Int) < 0 then -1 else
  if szHL (left - (key.size : Int)) hs < 0 then -1 else
  if szHL (left - (key.size : Int)) hs - (bs.length : Int) < 0 then -1 else
  if szTL (szHL (left - (key.size : Int)) hs - (bs.length : Int)) ts < 0 then -1 else szTL (szHL (left - (key.size : Int)) hs - (bs.length : Int)) ts
theorem szTL_le {l : List ByteArray} {left : Int} (h : ¬ szTL left l < 0) : szTL left l ≤ left := by
  unfold szTL at h ⊢
  by_cases c : left - (l.length : Int) < 0
  · rw [if_pos c] at h; omega
  · rw [if_neg c] at h ⊢
    rcases szTs_le l (left - (l.length : Int)) with x | x <;> omega
theorem szE_room {left : Int} {key : ByteArray} {hs : List Hdr} {bs : List UInt8} {ts : List ByteArray} (hl : left ≤ 1048576) (h : ¬ szE left key hs bs ts < 0) : key.size ≤ 1048576 ∧ hs.length ≤ 1048576 ∧ bs.length ≤ 1048576 ∧ ts.length ≤ 1048576 ∧ szE left key hs bs ts ≤ left := by
  unfold szE at h ⊢
  split at h
  · exact absurd (by decide) h
  split at h
  · exact absurd (by decide) h
  split at h
  · exact absurd (by decide) h
  split at h
  · exact absurd (by decide) h
  rename_i c1 c2 c3 c4
  rw [if_neg c1, if_neg c2, if_neg c3, if_neg c4]
  have r1 := szHL_room (l := hs) (left := left - (key.size : Int)) (by omega) c2
  have r2 := szHL_le c2
  have r3 := szTL_room (l := ts) (left := szHL (left - (key.size : Int)) hs - (bs.length : Int)) (by omega) c4
  have r4 := szTL_le c4
  exact ⟨by omega, by omega, by omega, r3.1, by omega⟩
end Go.Proofs.YtlbagfaiiileoaaDoor
/-
  The laws' copy of head lines: what it holds may be written.
-/
namespace Go.Proofs.YtlbagfaiiileoaaDoor
open Go.ChangeShapes Go.WideShapes Go.ChangeAt Go.RowKit Go.Sort
end Go.Proofs.YtlbagfaiiileoaaDoor
/-
  Requests that came in: measured, taken over, compared.
-/
namespace Go.Proofs.YtlbagfaiiileoaaDoor
open Go.ChangeShapes Go.WideShapes Go.ChangeAt Go.RowKit
/-- Lines of the law's own, that may be written. -/
structure QMine (W : World) (B : Nat) (l : List Hdr) : Prop where
  at0 : HeadsAt W B 0 l
  free : ∀ o, W.frozen? ⟨B, o, none⟩ = false
  lt : B < W.heap.size
theorem QMine.keep {W W' : World} {B : Nat} {l : List Hdr} (h : QMine W B l) (hb : Below W.heap.size W W') : QMine W' B l :=
  ⟨h.at0.keep hb, fun o => by rw [hb.frozen (p := ⟨B, o, none⟩) h.lt]; exact h.free o, Nat.lt_of_lt_of_le h.lt hb.size⟩
def szRq (left : Int) (m h p : ByteArray) (l : List Hdr) : Int :=
  if left - (m.size : Int) < 0 then -1 else if left - (m.size : Int) - (h.size : Int) < 0 then -1 else if left - (m.size : Int) - (h.size : Int) - (p.size : Int) < 0 then -1 else
    if szHL (left - (m.size : Int) - (h.size : Int) - (p.size : Int)) l < 0 then -1 else szHL (left - (m.size : Int) - (h.size : Int) - (p.size : Int)) l
theorem szRq_room {left : Int} {m h p : ByteArray} {l : List Hdr} (hl : left ≤ 1048576) (hz : ¬ szRq left m h p l < 0) : m.size ≤ 1048576 ∧ h.size ≤ 1048576 ∧ p.size ≤ 1048576 ∧ l.length ≤ 1048576 ∧ szRq left m h p l ≤ left := by
  unfold szRq at hz ⊢
  by_cases c1 : left - (m.size : Int) < 0
  · rw [if_pos c1] at hz; omega
  rw [if_neg c1] at hz ⊢
  by_cases c2 : left - (m.size : Int) - (h.size : Int) < 0
  · rw [if_pos c2] at hz; omega
  rw [if_neg c2] at hz ⊢
  by_cases c3 : left - (m.size : Int) - (h.size : Int) - (p.size : Int) < 0
  · rw [if_pos c3] at hz; omega
  rw [if_neg c3] at hz ⊢
  by_cases c4 : szHL (left - (m.size : Int) - (h.size : Int) - (p.size : Int)) l < 0
  · rw [if_pos c4] at hz; omega
  rw [if_neg c4] at hz ⊢
  have a := (szHL_room (by omega) c4).1
  have b := szHL_le c4
  exact ⟨by omega, by omega, by omega, by omega, by omega⟩
/-- Four cells of a block, laid out. -/
structure Four (W : World) (B : Nat) (v0 v1 v2 v3 : Value) : Prop where
  c0 : W.cell? ⟨B, 0, none⟩ = some v0
  c1 : W.cell? ⟨B, 1, none⟩ = some v1
  c2 : W.cell? ⟨B, 2, none⟩ = some v2
  c3 : W.cell? ⟨B, 3, none⟩ = some v3
  fr : ∀ o, W.frozen? ⟨B, o, none⟩ = false
  lt : B < W.heap.size
theorem Four.keep {W W' : World} {B : Nat} {v0 v1 v2 v3 : Value} (h : Four W B v0 v1 v2 v3) (hb : Below W.heap.size W W') : Four W' B v0 v1 v2 v3 :=
  ⟨by rw [hb.cell (p := ⟨B, 0, none⟩) h.lt]; exact h.c0, by rw [hb.cell (p := ⟨B, 1, none⟩) h.lt]; exact h.c1, by rw [hb.cell (p := ⟨B, 2, none⟩) h.lt]; exact h.c2, by rw [hb.cell (p := ⟨B, 3, none⟩) h.lt]; exact h.c3,
    fun o => by rw [hb.frozen (p := ⟨B, o, none⟩) h.lt]; exact h.fr o, Nat.lt_of_lt_of_le h.lt hb.size⟩
theorem Four.new (W : World) (v0 v1 v2 v3 : Value) (t : TypeId) : Four (W.alloc (.cells #[v0, v1, v2, v3] t)) W.heap.size v0 v1 v2 v3 :=
  ⟨by rw [World.cell?_alloc_mark]; rfl, by rw [World.cell?_alloc_mark]; rfl, by rw [World.cell?_alloc_mark]; rfl, by rw [World.cell?_alloc_mark]; rfl, fun o => by have e := heap_alloc_new W (.cells #[v0, v1, v2, v3] t); unfold World.frozen?; rw [e]; simp, by simp⟩
end Go.Proofs.YtlbagfaiiileoaaDoor
/-
  Responses that came in: measured, taken over, compared.
-/
namespace Go.Proofs.YtlbagfaiiileoaaDoor
open Go.ChangeShapes Go.WideShapes Go.ChangeAt Go.RowKit
structure Three (W : World) (B : Nat) (v0 v1 v2 : Value) : Prop where
  c0 : W.cell? ⟨B, 0, none⟩ = some v0
  c1 : W.cell? ⟨B, 1, none⟩ = some v1
  c2 : W.cell? ⟨B, 2, none⟩ = some v2
  fr : ∀ o, W.frozen? ⟨B, o, none⟩ = false
  lt : B < W.heap.size
theorem Three.keep {W W' : World} {B : Nat} {v0 v1 v2 : Value} (h : Three W B v0 v1 v2) (hb : Below W.heap.size W W') : Three W' B v0 v1 v2 :=
  ⟨by rw [hb.cell (p := ⟨B, 0, none⟩) h.lt]; exact h.c0, by rw [hb.cell (p := ⟨B, 1, none⟩) h.lt]; exact h.c1, by rw [hb.cell (p := ⟨B, 2, none⟩) h.lt]; exact h.c2,
    fun o => by rw [hb.frozen (p := ⟨B, o, none⟩) h.lt]; exact h.fr o, Nat.lt_of_lt_of_le h.lt hb.size⟩
theorem Three.new (W : World) (v0 v1 v2 : Value) (t : TypeId) : Three (W.alloc (.cells #[v0, v1, v2] t)) W.heap.size v0 v1 v2 :=
  ⟨by rw [World.cell?_alloc_mark]; rfl, by rw [World.cell?_alloc_mark]; rfl, by rw [World.cell?_alloc_mark]; rfl, fun o => by have e := heap_alloc_new W (.cells #[v0, v1, v2] t); unfold World.frozen?; rw [e]; simp, by simp⟩
def szP (left : Int) (l : List Hdr) (n : Nat) : Int := if szHL left l < 0 then -1 else if szHL left l - (n : Int) < 0 then -1 else szHL left l - (n : Int)
theorem szP_room {left : Int} {l : List Hdr} {n : Nat} (hl : left ≤ 1048576) (hz : ¬ szP left l n < 0) : l.length ≤ 1048576 ∧ n ≤ 1048576 ∧ szP left l n ≤ left := by
  unfold szP at hz ⊢
  by_cases c1 : szHL left l < 0
  · rw [if_pos c1] at hz; omega
  rw [if_neg c1] at hz ⊢
  by_cases c2 : szHL left l - (n : Int) < 0
  · rw [if_pos c2] at hz; omega
  rw [if_neg c2] at hz ⊢
  have a := (szHL_room hl c1).1
  have b := szHL_le c1
  exact ⟨by omega, by omega, by omega⟩
/-- A response of the law's own. -/
def RespRes (k : Nat) (s : Int) (l : List Hdr) (bl : List UInt8) (e : Ending) (w' : World) : Prop :=
  ∃ B, e = .returned (.agg #[.int .i64 s, .slice (some ⟨k + 3, 0, none⟩) l.length l.length, .slice (some ⟨B, 0, none⟩) bl.length bl.length]) ∧ QMine w' (k + 3) l ∧ BMine w' B bl ∧ k + 3 < B
end Go.Proofs.YtlbagfaiiileoaaDoor
/-
  Entries, handed over by the laws: copies.
-/
namespace Go.Proofs.YtlbagfaiiileoaaDoor
open Go.ChangeShapes Go.WideShapes Go.ChangeAt Go.RowKit Go.Sort
theorem QMine.off1 {W : World} {B b i : Nat} {l : List Hdr} (h : QMine W B l) (x : Value) (hne : b ≠ B) : QMine (W.setCell ⟨b, i, none⟩ x) B l := by
  have ne : ∀ o : Nat, (⟨b, i, none⟩ : Addr) ≠ ⟨B, o, none⟩ := fun o q => hne (congrArg Addr.block q)
  exact ⟨fun k r hr => by rw [World.cell?_setCell_other _ _ _ _ (ne _), World.cell?_setCell_other _ _ _ _ (ne _)]; exact h.at0 k r hr, fun o => by rw [World.frozen?_setCell]; exact h.free o, by simpa using h.lt⟩
theorem BMine.off1 {W : World} {B b i : Nat} {l : List UInt8} (h : BMine W B l) (x : Value) (hne : b ≠ B) : BMine (W.setCell ⟨b, i, none⟩ x) B l := by
  have ne : ∀ o : Nat, (⟨b, i, none⟩ : Addr) ≠ ⟨B, o, none⟩ := fun o q => hne (congrArg Addr.block q)
  exact ⟨fun k r hr => by rw [World.cell?_setCell_other _ _ _ _ (ne _)]; exact h.at0 k r hr, fun o ho => by rw [World.frozen?_setCell]; exact h.free o ho, by simpa using h.lt⟩
theorem TMine.off1 {W : World} {B b i : Nat} {l : List ByteArray} (h : TMine W B l) (x : Value) (hne : b ≠ B) : TMine (W.setCell ⟨b, i, none⟩ x) B l := by
  have ne : ∀ o : Nat, (⟨b, i, none⟩ : Addr) ≠ ⟨B, o, none⟩ := fun o q => hne (congrArg Addr.block q)
  exact ⟨fun k r hr => by rw [World.cell?_setCell_other _ _ _ _ (ne _)]; exact h.at0 k r hr, fun o ho => by rw [World.frozen?_setCell]; exact h.free o ho, by simpa using h.lt⟩
end Go.Proofs.YtlbagfaiiileoaaDoor
/-
  Lists of entries, handed over by the laws: room, copies, comparisons.
-/
namespace Go.Proofs.YtlbagfaiiileoaaDoor
open Go.ChangeShapes Go.WideShapes Go.ChangeAt Go.RowKit Go.Sort
theorem EntsAt.cells {w : World} {b off : Nat} {l : List (Ent × EntR)} (h : EntsAt w b off l) {i : Nat} {q : Ent × EntR} (hq : l[i]? = some q) : w.cell? ⟨b, off + i * 13, none⟩ = some (.string q.1.key) ∧ w.cell? ⟨b, off + i * 13 + 1, none⟩ = some (.int .i64 q.1.st) ∧ w.cell? ⟨b, off + i * 13 + 2, none⟩ = some (.slice q.2.ha q.1.hs.length q.2.hc) ∧ w.cell? ⟨b, off + i * 13 + 3, none⟩ = some (.slice q.2.ba q.1.bl.length q.2.bc) ∧ w.cell? ⟨b, off + i * 13 + 4, none⟩ = some (.int .i64 q.1.t) ∧ w.cell? ⟨b, off + i * 13 + 5, none⟩ = some (.int .i64 q.1.g) ∧ w.cell? ⟨b, off + i * 13 + 6, none⟩ = some (.int .i64 q.1.l) ∧ w.cell? ⟨b, off + i * 13 + 7, none⟩ = some (.int .i64 q.1.s) ∧ w.cell? ⟨b, off + i * 13 + 8, none⟩ = some (.int .i64 q.1.e) ∧ w.cell? ⟨b, off + i * 13 + 9, none⟩ = some (.bool q.1.b1) ∧ w.cell? ⟨b, off + i * 13 + 10, none⟩ = some (.bool q.1.b2) ∧ w.cell? ⟨b, off + i * 13 + 11, none⟩ = some (.slice q.2.ta q.1.ts.length q.2.tc) ∧ w.cell? ⟨b, off + i * 13 + 12, none⟩ = some (.int .i64 q.1.pins) := by
  have c := (h i q hq).1
  exact ⟨c 0 (by omega), c 1 (by omega), c 2 (by omega), c 3 (by omega), c 4 (by omega), c 5 (by omega), c 6 (by omega), c 7 (by omega), c 8 (by omega), c 9 (by omega), c 10 (by omega), c 11 (by omega), c 12 (by omega)⟩
theorem EntsAt.in {w : World} {b off : Nat} {l : List (Ent × EntR)} (h : EntsAt w b off l) {i : Nat} {q : Ent × EntR} (hq : l[i]? = some q) : EntIn w q.1 q.2 := (h i q hq).2
def szEs (c : Int) : List (Ent × EntR) → Int
  | [] => c
  | q :: l => if szE c q.1.key q.1.hs q.1.bl q.1.ts < 0 then -1 else szEs (szE c q.1.key q.1.hs q.1.bl q.1.ts) l
def szEL (left : Int) (l : List (Ent × EntR)) : Int := if left - (l.length : Int) < 0 then -1 else szEs (left - (l.length : Int)) l
end Go.Proofs.YtlbagfaiiileoaaDoor
