/-
  slices.Insert of one head line into lines of the call's own.
-/
import Derived.Test.YthlenlijdlfdeaaDoorHDropFns
import Derived.Laws.CopyRow
import Derived.Lib.Overlaps
import Derived.Lib.AppendZerosOnto
import Derived.Laws.NewBlocks
import Derived.StillTailTactics
import Derived.Lib.Walk
namespace Go.Proofs.YthlenlijdlfdeaaDoor
open Go.ChangeShapes Go.WideShapes Go.ChangeAt Go.RowKit Go.Sort
theorem hdr_size2 : (Tryd.prog.info? 56).map (·.size) = some 2 := by kernel_rfl
theorem hdr_mixed : Tryd.prog.follows .mixedOrders = true := by kernel_rfl
/-- copy between slices of two cells an element, into a row. -/
theorem run_copy_row2 (w : World) (ty : TypeId) (g o dLen dCap : Nat) (a : Addr) (sLen sCap n : Nat) (cur : Array Value) (t : TypeId) (cs : List Value)
    (hg : w.heap[g]? = some (.cells cur t (0, 0))) (hn : n = Nat.min sLen dLen) (hcl : cs.length = n * 2)
    (hsrc : ∀ j v, cs[j]? = some v → w.cell? (a.add j) = some v) (hfit : o + cs.length ≤ cur.size) (h1 : ∀ v ∈ cs, v.oneCell' = true) :
    (Builtin.copy_ #[24, 24] ty #[.slice (some ⟨g, o, none⟩) dLen dCap, .slice (some a) sLen sCap]).run Tryd.prog w =
      .ok (goInt n) (w.setRow g (cur.toList.take o ++ cs ++ cur.toList.drop (o + cs.length)).toArray) := by
  have hl := run_loadCells_list (P := Tryd.prog) w a cs hsrc
  have hst := run_storeCells_at Tryd.prog g o t cs 0 cur w hg (by simpa using hfit) h1
  have hu := Tryd.underlying24
  cases hq : Tryd.prog.info? 56 with
  | none => have := hdr_size2; simp [hq] at this
  | some i =>
    have hi : i.size = 2 := by have := hdr_size2; simpa [hq] using this
    rw [hcl] at hl
    simp [Builtin.copy_, run_underlying hu, Builtin.lenOf, Builtin.firstCells, sizeOf, typeInfo, hq, hi, ← hn, hl, hst]
theorem wp_copy_runH (w : World) {o : Oper} {a : Act} {K : Act → World → Prop} {Q : Exit → Act → World → Prop} (d s : Operand) (t t' : TypeId)
    (ho : o.op = .call { callee := .builtin .copy, args := #[d, s], argTypes := #[t, t'] }) (v u : Value) (hd : a.eval d = v) (hs : a.eval s = u) {v' : Value} {w' : World}
    (hr : (Builtin.copy_ #[t, t'] o.type #[v, u]).run Tryd.prog w = .ok v' w') (h : K (a.put o.dst v') w') : o.wp Tryd.prog a w K Q := by
  unfold Oper.wp execOp
  simp only [ho, resolve, invoke, builtin, Sem.run_bind, Sem.run_pure, Result.andThen_ok, List.map_toArray, List.map_cons, List.map_nil, hd, hs, hr]
  exact h
theorem wpList_copy_runH (w : World) {ops : Array Oper} {rest : List Oper} {o : Oper} {a : Act} {Q : Exit → Act → World → Prop} (hgd : o.guard = none) (d s : Operand) (t t' : TypeId)
    (ho : o.op = .call { callee := .builtin .copy, args := #[d, s], argTypes := #[t, t'] }) (v u : Value) (hd : a.eval d = v) (hs : a.eval s = u) {v' : Value} {w' : World}
    (hr : (Builtin.copy_ #[t, t'] o.type #[v, u]).run Tryd.prog w = .ok v' w') (h : wpList Tryd.prog ops Q rest (a.put o.dst v') w') : wpList Tryd.prog ops Q (o :: rest) a w :=
  wpList_plain hgd fun _ hK => wp_copy_runH w d s t t' ho v u hd hs hr (hK _ _ h)
theorem grown_setRow (w : World) (g : Nat) (cs : Array Value) : w.grownBy (w.setRow g cs) (some g) :=
  ⟨rfl, rfl, rfl, by simp, fun i _ hi => setRow_other w g i cs (fun e => hi (by rw [e]))⟩
theorem below_setRow {base g : Nat} (w : World) (cs : Array Value) (hg : base ≤ g) (hw : base ≤ w.heap.size) : Below base w (w.setRow g cs) :=
  (Below.refl base w).grown (grown_setRow w g cs) hw (fun k hk => by cases hk; exact hg)
theorem hdrsW_one (l : List Hdr) : ∀ v ∈ hdrsW l, v.oneCell' = true := by
  intro v hv
  obtain ⟨r, _, hr⟩ := List.mem_flatMap.1 hv
  simp only [hdrW, List.mem_cons, List.not_mem_nil, or_false] at hr
  rcases hr with rfl | rfl <;> rfl
theorem hdrsW_app (l m : List Hdr) : hdrsW (l ++ m) = hdrsW l ++ hdrsW m := by simp [hdrsW]
theorem hdrsW_take (l : List Hdr) (i : Nat) (hi : i ≤ l.length) : (hdrsW l).take (i * 2) = hdrsW (l.take i) := by
  have h : hdrsW l = hdrsW (l.take i) ++ hdrsW (l.drop i) := by rw [← hdrsW_app, List.take_append_drop]
  rw [h, List.take_left' (by rw [hdrsW_len, List.length_take]; omega)]
theorem hdrsW_drop (l : List Hdr) (i : Nat) (hi : i ≤ l.length) : (hdrsW l).drop (i * 2) = hdrsW (l.drop i) := by
  have h : hdrsW l = hdrsW (l.take i) ++ hdrsW (l.drop i) := by rw [← hdrsW_app, List.take_append_drop]
  rw [h, List.drop_left' (by rw [hdrsW_len, List.length_take]; omega)]
/-- What the two copies leave, where there is room. -/
theorem rows_shift (A B T : List Value) (x y : Value) (k : Nat) (hA : A.length = k) (hT : 2 ≤ T.length) :
    ((((A ++ B ++ T).take (k + 2) ++ B ++ (A ++ B ++ T).drop (k + 2 + B.length)).take k ++ [x, y] ++ ((A ++ B ++ T).take (k + 2) ++ B ++ (A ++ B ++ T).drop (k + 2 + B.length)).drop (k + 2))) = A ++ [x, y] ++ B ++ T.drop 2 := by
  have h1 : ((A ++ B ++ T).take (k + 2)).length = k + 2 := by simp; omega
  have e1 : ((A ++ B ++ T).take (k + 2) ++ B ++ (A ++ B ++ T).drop (k + 2 + B.length)).drop (k + 2) = B ++ (A ++ B ++ T).drop (k + 2 + B.length) := by
    rw [List.append_assoc, List.drop_left' h1]
  have e2 : ((A ++ B ++ T).take (k + 2) ++ B ++ (A ++ B ++ T).drop (k + 2 + B.length)).take k = A := by
    rw [List.append_assoc, List.take_append_of_le_length (by omega), List.take_take, Nat.min_eq_left (by omega), List.append_assoc, List.take_left' hA]
  have e3 : (A ++ B ++ T).drop (k + 2 + B.length) = T.drop 2 := by
    rw [show k + 2 + B.length = (A ++ B).length + 2 from by simp; omega, List.drop_append]
    simp
  rw [e1, e2, e3]
  simp
/-- What the two copies leave in a new row. -/
theorem rows_grow (A B Z T : List Value) (x y : Value) (k : Nat) (hA : A.length = k) (hZ : Z.length = B.length + 2) :
    (((A ++ Z ++ T).take k ++ [x, y] ++ (A ++ Z ++ T).drop (k + 2)).take (k + 2) ++ B ++ ((A ++ Z ++ T).take k ++ [x, y] ++ (A ++ Z ++ T).drop (k + 2)).drop (k + 2 + B.length)) = A ++ [x, y] ++ B ++ T := by
  have e0 : (A ++ Z ++ T).take k = A := by rw [List.append_assoc, List.take_left' hA]
  have h2 : (A ++ [x, y]).length = k + 2 := by simp [hA]
  have e1 : (A ++ [x, y] ++ (A ++ Z ++ T).drop (k + 2)).take (k + 2) = A ++ [x, y] := List.take_left' h2
  have e2 : (A ++ [x, y] ++ (A ++ Z ++ T).drop (k + 2)).drop (k + 2 + B.length) = T := by
    rw [show k + 2 + B.length = (A ++ [x, y]).length + B.length from by omega, List.drop_append]
    have e3 : (A ++ [x, y]).drop ((A ++ [x, y]).length + B.length) = [] := List.drop_of_length_le (by omega)
    rw [e3, List.nil_append, show (A ++ [x, y]).length + B.length - (A ++ [x, y]).length = B.length from by omega, List.drop_drop]
    rw [show k + 2 + B.length = (A ++ Z).length from by simp; omega, List.drop_left]
  rw [e0, e1, e2]
end Go.Proofs.YthlenlijdlfdeaaDoor
