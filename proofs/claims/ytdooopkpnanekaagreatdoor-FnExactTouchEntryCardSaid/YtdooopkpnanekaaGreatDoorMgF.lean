/-
  Texts of one claim, one behind the other.
-/
import Derived.Deep.CutBlock
import Derived.Deep.CutRange
import Derived.Deep.MidRow
import Derived.Deep.RegionHeld3
import Derived.Deep.WholeRow
import Derived.Laws.Cells
import Derived.Laws.IdiomCopy
import Derived.Test.YtdooopkpnanekaaGreatDoorMgE
/-
  The last one that fits is taken out of two shelves; the one of a key.
-/
namespace Go.Proofs.YtdooopkpnanekaaGreatDoor
open Go.ChangeShapes Go.WideShapes Go.ChangeAt Go.RowKit Go.Sort
theorem Took.own {w w' : World} {B o base : Nat} {own : Option Nat} {u v : Value} {m : List Hdl} (h : Took w w' B o own u) (hv : OwnP w base v m) (nB : v.ownBlock ≠ some B) (nO : v.ownBlock = none ∨ v.ownBlock ≠ own) : OwnP w' base v m := by
  obtain ⟨h1, h2⟩ := hv
  refine ⟨h1, ?_⟩
  rcases h2 with h2 | ⟨g, cap, cur, rfl, hg, hh, hr⟩
  · exact .inl h2
  · refine .inr ⟨g, cap, cur, rfl, hg, ?_, hr⟩
    rw [h.block g (Array.getElem?_eq_some_iff.1 hh).1 (fun e => nB (by rw [← e]; rfl)) (by
      rcases nO with e | e
      · cases e
      · exact e)]
    exact hh
theorem Took.below {w w' : World} {B o lo : Nat} {v u : Value} {m : List Hdl} (h : Took w w' B o v.ownBlock u) (hv : OwnP w lo v m) (hB : lo ≤ B) (hlo : lo ≤ w.heap.size) : Below lo w w' :=
  { os := h.os, tape := h.tape, output := h.output, size := h.size, block := fun k hk => h.block k (Nat.lt_of_lt_of_le hk hlo) (by omega) (fun e => by have := own_geP hv k e.symm; omega) }
theorem H2.tookT {w w' : World} {lo B : Nat} {v1 v2 u : Value} {l1 l2 m : List Hdl} (h : H2 w lo B v1 v2 l1 l2) (t : Took w w' B 0 v1.ownBlock u) (ho : OwnP w' lo u m) (hu : u.ownBlock = v1.ownBlock) (hlo : lo ≤ w.heap.size) : H2 w' lo B u v2 m l2 ∧ Below lo w w' :=
  ⟨⟨t.cB, (t.cO 1 (by omega)).trans h.c1, fun o => (t.fr o).trans (h.fr o), ⟨ho, t.own h.tp.b h.n2 (by
      rcases h.tp.ne with e | e
      · cases e2 : v2.ownBlock with
        | none => exact .inl rfl
        | some q => right; rw [e]; simp
      · exact .inr fun e2 => e e2.symm), by rw [hu]; exact h.tp.ne⟩, Nat.lt_of_lt_of_le h.lt t.size, h.le, by rw [hu]; exact h.n1, h.n2⟩, t.below h.tp.a h.le hlo⟩
theorem H2.tookK {w w' : World} {lo B : Nat} {v1 v2 u : Value} {l1 l2 m : List Hdl} (h : H2 w lo B v1 v2 l1 l2) (t : Took w w' B 1 v2.ownBlock u) (ho : OwnP w' lo u m) (hu : u.ownBlock = v2.ownBlock) (hlo : lo ≤ w.heap.size) : H2 w' lo B v1 u l1 m ∧ Below lo w w' :=
  ⟨⟨(t.cO 0 (by omega)).trans h.c0, t.cB, fun o => (t.fr o).trans (h.fr o), ⟨t.own h.tp.a h.n1 h.tp.ne, ho, by rw [hu]; exact h.tp.ne⟩, Nat.lt_of_lt_of_le h.lt t.size, h.le, h.n1, by rw [hu]; exact h.n2⟩, t.below h.tp.b h.le hlo⟩
/-- What takeLast of two shelves tells. -/
def Last2 (w : World) (lo B : Nat) (p : Hdl → Bool) (v1 v2 : Value) (l1 l2 : List Hdl) (e : Ending) (w' : World) : Prop :=
  ((∀ h ∈ l1 ++ l2, p h = false) ∧ e = .returned (.pointer none) ∧ Below w.heap.size w w' ∧ H2 w' lo B v1 v2 l1 l2) ∨
  (∃ A h R u, l1 = A ++ h :: R ∧ p h = true ∧ (∀ x ∈ R, p x = false) ∧ e = .returned (.pointer (some ⟨h.b, h.o, none⟩)) ∧ H2 w' lo B u v2 (A ++ R) l2 ∧ Below lo w w') ∨
  (∃ A h R u, l2 = A ++ h :: R ∧ p h = true ∧ (∀ x ∈ l1, p x = false) ∧ (∀ x ∈ R, p x = false) ∧ e = .returned (.pointer (some ⟨h.b, h.o, none⟩)) ∧ H2 w' lo B v1 u l1 (A ++ R) ∧ Below lo w w')
set_option maxHeartbeats 4000000 in
theorem takeLast2_any (w : World) (lo B g : Nat) (lb : Array Value) (p : Hdl → Bool) (v1 v2 : Value) (l1 l2 : List Hdl) (h : H2 w lo B v1 v2 l1 l2) (hl1 : l1.length ≤ 1000) (hl2 : l2.length ≤ 1000) (hlo : lo ≤ w.heap.size) (PH : PredH w.heap.size w g lb p (l1 ++ l2)) :
    Calls Tryz.prog 123 #[.pointer (some ⟨B, 0, none⟩), .func (.func g) #[] lb] w fun e w' => Last2 w lo B p v1 v2 l1 l2 e w' := by
  have C1 : Hid (Calls Tryz.prog 124 #[.pointer (some ⟨B, 0, none⟩), .func (.func g) #[] lb] w fun e w' => ((∀ h ∈ l1, p h = false) ∧ e = .returned (.pointer none) ∧ Below w.heap.size w w') ∨ (∃ x, e = .returned (.pointer (some x)) ∧ Last2 w lo B p v1 v2 l1 l2 e w')) := by
    refine (takeLast_any w B 0 lo g lb p v1 l1 h.c0 (h.fr 0) h.tp.a hl1 h.n1 (PH.sub (fun x hx => List.mem_append_left _ hx))).mono ?_
    rintro e w' (hr | ⟨A, q, R, u, h1, h2, h3, h4, h5, h6, h7⟩)
    · exact .inl hr
    · obtain ⟨k1, k2⟩ := h.tookT h5 h6 h7 hlo
      exact .inr ⟨_, h4, .inr (.inl ⟨A, q, R, u, h1, h2, h3, h4, k1, k2⟩)⟩
  have C2 : Hid (∀ X, Below w.heap.size w X → (∀ h ∈ l1, p h = false) → Calls Tryz.prog 124 #[.pointer (some ⟨B, 1, none⟩), .func (.func g) #[] lb] X fun e w' => ∃ x, e = .returned (.pointer x) ∧ Last2 w lo B p v1 v2 l1 l2 e w') := fun X hX hp1 => by
    have hx := h.below hX
    refine (takeLast_any X B 1 lo g lb p v2 l2 hx.c1 (hx.fr 1) hx.tp.b hl2 hx.n2 ((PH.sub (fun x hx => List.mem_append_right _ hx)).up hX.size hX)).mono ?_
    rintro e w' (⟨r1, r2, r3⟩ | ⟨A, q, R, u, h1, h2, h3, h4, h5, h6, h7⟩)
    · refine ⟨_, r2, .inl ⟨fun y hy => ?_, r2, hX.trans (r3.mono hX.size), hx.below r3⟩⟩
      rcases List.mem_append.1 hy with hy | hy
      · exact hp1 y hy
      · exact r1 y hy
    · obtain ⟨k1, k2⟩ := hx.tookK h5 h6 h7 (Nat.le_trans hlo hX.size)
      exact ⟨_, h4, .inr (.inr ⟨A, q, R, u, h1, h2, hp1, h3, h4, k1, (hX.mono hlo).trans k2⟩)⟩
  clear h PH hl1 hl2 hlo
  go_enter Tryz.func123, Tryz.ntmps123
  go_wp2_with fail
  refine C1.out.mono ?_
  rintro e w1 (⟨hp1, rfl, hb1⟩ | ⟨x, rfl, hr⟩)
  · have C3 := C2.out w1 hb1 hp1
    clear C1 C2 hp1 hb1
    go_wp2_with fail
    refine C3.mono ?_
    rintro e w2 ⟨x, rfl, hr⟩
    have HR : Hid (Last2 w lo B p v1 v2 l1 l2 (.returned (.pointer x)) w2) := hr
    clear hr C3
    go_wp2_with fail
    go_ret
    exact HR.out
  · have HR : Hid (Last2 w lo B p v1 v2 l1 l2 (.returned (.pointer (some x))) w1) := hr
    clear hr C1 C2
    go_wp2_with fail
    go_ret
    exact HR.out
set_option maxHeartbeats 4000000 in
theorem takeKey_any (w : World) (lo B : Nat) (key : ByteArray) (v1 v2 : Value) (l1 l2 : List Hdl) (h : H2 w lo B v1 v2 l1 l2) (hl1 : l1.length ≤ 1000) (hl2 : l2.length ≤ 1000) (hlo : lo ≤ w.heap.size) (hth : ∀ h ∈ l1 ++ l2, HThere w h) (hts : ∀ h ∈ l1 ++ l2, h.x.ts.length ≤ 1048576) :
    Calls Tryz.prog 58 #[.pointer (some ⟨B, 0, none⟩), .string key] w fun e w' => ∃ X, Below w.heap.size w X ∧ Last2 X lo B (fun h => isKey key h.x) v1 v2 l1 l2 e w' := by
  have HK : Hid (Calls Tryz.prog 119 #[.string key] w fun e w' => e = .returned (.func (.func 164) #[] #[.pointer (some ⟨w.heap.size, 0, none⟩)]) ∧ w'.cell? ⟨w.heap.size, 0, none⟩ = some (.string key) ∧ w.heap.size < w'.heap.size ∧ Below w.heap.size w w') := hasKey_any w key
  have HT : Hid (∀ X, Below w.heap.size w X → X.cell? ⟨w.heap.size, 0, none⟩ = some (.string key) → w.heap.size < X.heap.size → Calls Tryz.prog 123 #[.pointer (some ⟨B, 0, none⟩), .func (.func 164) #[] #[.pointer (some ⟨w.heap.size, 0, none⟩)]] X fun e w' => ∃ x, e = .returned (.pointer x) ∧ Last2 X lo B (fun h => isKey key h.x) v1 v2 l1 l2 e w') := fun X hX hc hz => by
    refine (takeLast2_any X lo B 164 #[.pointer (some ⟨w.heap.size, 0, none⟩)] (fun h => isKey key h.x) v1 v2 l1 l2 (h.below hX) hl1 hl2 (Nat.le_trans hlo hX.size) ((predKey X.heap.size w.heap.size key hz).h (l := l1 ++ l2) hc (Nat.le_refl _) (fun x hx => (hth x hx).keep hX) hts)).mono ?_
    rintro e w' hr
    rcases id hr with ⟨_, r2, _⟩ | ⟨_, _, _, _, _, _, _, r2, _⟩ | ⟨_, _, _, _, _, _, _, _, r2, _⟩
    · exact ⟨_, r2, hr⟩
    · exact ⟨_, r2, hr⟩
    · exact ⟨_, r2, hr⟩
  clear h hl1 hl2 hlo hth hts
  go_enter Tryz.func58, Tryz.ntmps58
  go_wp2_with fail
  refine HK.out.mono ?_
  rintro e w1 ⟨rfl, hc1, hz1, hb1⟩
  have CT := HT.out w1 hb1 hc1 hz1
  have HB1 : Hid (Below w.heap.size w w1) := hb1
  clear HK HT hb1 hc1 hz1
  go_wp2_with fail
  refine CT.mono ?_
  rintro e w2 ⟨x, rfl, hr⟩
  have HR : Hid (Last2 w1 lo B (fun h => isKey key h.x) v1 v2 l1 l2 (.returned (.pointer x)) w2) := hr
  clear hr CT
  go_wp2_with fail
  go_ret
  exact ⟨w1, HB1.out, HR.out⟩
end Go.Proofs.YtdooopkpnanekaaGreatDoor
/-
  A shelf that gets one more, ahead of all others.
-/
namespace Go.Proofs.YtdooopkpnanekaaGreatDoor
open Go.ChangeShapes Go.WideShapes Go.ChangeAt Go.RowKit Go.Sort
/-- What putFirst leaves: one more, ahead; its row grew in its own block or lies in a new one. -/
def PutR (w : World) (B o base : Nat) (v : Value) (l : List Hdl) (h0 : Hdl) (e : Ending) (w' : World) : Prop :=
  e = .returned (.tuple #[]) ∧ ∃ u, Took w w' B o v.ownBlock u ∧ OwnP w' base u (h0 :: l) ∧ ∀ q, u.ownBlock = some q → v.ownBlock = some q ∨ w.heap.size ≤ q
set_option maxRecDepth 100000 in
set_option maxHeartbeats 4000000 in
theorem putFirst_any (w : World) (B o base : Nat) (v : Value) (l : List Hdl) (h0 : Hdl) (hc : w.cell? ⟨B, o, none⟩ = some v) (hfz : w.frozen? ⟨B, o, none⟩ = false) (ho : OwnP w base v l) (hl : l.length ≤ 1000) (hbase : base ≤ w.heap.size) (hn : v.ownBlock ≠ some B) :
    Calls Tryz.prog 57 #[.pointer (some ⟨B, o, none⟩), .pointer (some ⟨h0.b, h0.o, none⟩)] w fun e w' => PutR w B o base v l h0 e w' := by
  have hB : B < w.heap.size := block_lt_of_cell hc
  obtain ⟨X, hX⟩ : ∃ X, X = w.alloc (.cells #[.pointer (some ⟨h0.b, h0.o, none⟩)] 101) := ⟨_, rfl⟩
  have HX := hidP hX
  have bX : Below w.heap.size w X := by rw [hX]; exact (Below.refl _ _).alloc (Nat.le_refl _) _
  have hvb : X.heap[w.heap.size]? = some (.cells #[hP h0] 101 (0, 0)) := by rw [hX]; exact heap_alloc_new _ _
  have hv : v.ownBlock ≠ some w.heap.size := fun e => by have := ho.lt _ e; omega
  have C := ins_any X base v l h0 w.heap.size 101 (ho.below bX) hl (Nat.le_trans hbase bX.size) hv hvb
  have HE := hidP (show ∀ g c w1, X.grownBy w1 v.ownBlock → OwnP w1 base (.slice (some ⟨g, 0, none⟩) (h0 :: l).length c) (h0 :: l) → (v.ownBlock = some g ∨ X.heap.size ≤ g) → w1.cell? ⟨B, o, none⟩ = some v ∧ w1.frozen? ⟨B, o, none⟩ = false ∧ PutR w B o base v l h0 (.returned (.tuple #[])) (w1.setCell ⟨B, o, none⟩ (.slice (some ⟨g, 0, none⟩) (h0 :: l).length c)) from fun g c w1 hg ho1 hgg => by
    have e1 := hg.block B (Nat.lt_of_lt_of_le hB bX.size) (fun e => hn e.symm)
    have e2 := bX.block B hB
    refine ⟨?_, ?_, rfl, _, Took.of bX hg hB hn hc, ?_, ?_⟩
    · rw [World.cell?_of_block (w := X) e1, World.cell?_of_block (w := w) e2]; exact hc
    · rw [World.frozen?_of_block (w := X) e1, World.frozen?_of_block (w := w) e2]; exact hfz
    · refine row_far1 ho1 _ (fun e => ?_)
      have e := Option.some.inj (show some g = some B from e)
      rcases hgg with q | q
      · exact hn (by rw [q, e])
      · have := bX.size; omega
    · intro q e
      have e := Option.some.inj (show some g = some q from e)
      rw [← e]
      exact hgg.imp_right (fun k => Nat.le_trans bX.size k))
  have HCell := hidP (show X.cell? ⟨B, o, none⟩ = some v from by rw [World.cell?_of_block (w := w) (bX.block B hB)]; exact hc)
  clear hX bX hvb hv hfz ho hl hbase hn hB
  obtain ⟨n, hn1⟩ : ∃ n, (h0 :: l).length = n := ⟨_, rfl⟩
  have HN := hidP hn1
  clear hn1
  go_enter Tryz.func57, Tryz.ntmps57
  go_wp2_with fail
  rw [← HX.out]
  refine C.mono ?_
  rintro e w1 ⟨g, c, rfl, h1, h2, h3⟩
  obtain ⟨k1, k2, k3⟩ := HE.out g c w1 h2 h1 h3
  have HK := hidP k3
  clear h1 h2 h3 k3 C HE HCell hc HX
  go_wp2_with fail
  exact bodyPost_ret (v := .tuple #[]) (by simp [results, Tryz.results57, go_sem]) rfl HK.out
end Go.Proofs.YtdooopkpnanekaaGreatDoor
/-
  As long as what is kept costs too much, the last one goes to the trial shelf.
-/
namespace Go.Proofs.YtdooopkpnanekaaGreatDoor
open Go.ChangeShapes Go.WideShapes Go.ChangeAt Go.RowKit Go.Sort
/-- What is kept told from behind: as long as it costs more than g the last one goes ahead of the others. -/
def lowR (g : Int) : List Ent → List Ent → List Ent × List Ent
  | T, [] => (T, [])
  | T, x :: r => if costsE (x :: r).reverse ≤ g then (T, (x :: r).reverse) else lowR g (x :: T) r
theorem lowR_stop {g : Int} {T K : List Ent} (h : costsE K ≤ g) : lowR g T K.reverse = (T, K) := by
  cases hk : K.reverse with
  | nil => rw [List.reverse_eq_nil_iff.1 hk]; rfl
  | cons x r =>
    have e : (x :: r).reverse = K := by rw [← hk, List.reverse_reverse]
    rw [lowR, e, if_pos h]
theorem lowR_step {g : Int} {T A : List Ent} {x : Ent} (h : ¬ costsE (A ++ [x]) ≤ g) : lowR g T (A ++ [x]).reverse = lowR g (x :: T) A.reverse := by
  have e : (A ++ [x]).reverse = x :: A.reverse := by simp
  have e2 : (x :: A.reverse).reverse = A ++ [x] := by simp
  rw [e, lowR, e2, if_neg h]
theorem entN_pos (x : Ent) : 1 ≤ entN x := by
  unfold entN costN
  omega
theorem costsE_bd : ∀ l : List Ent, (∀ x ∈ l, entC x = 0) → 0 ≤ costsE l ∧ costsE l ≤ 8000 * (l.length : Int)
  | [], _ => by simp [costsE]
  | x :: l, h => by
    have h1 := entN_le (h x (by simp))
    have h2 := costsE_bd l (fun y hy => h y (by simp [hy]))
    simp only [costsE, List.length_cons]
    omega
theorem anyEntry_pred (w : World) (l : List Hdl) : PredH w.heap.size w 116 #[] (fun _ => true) l :=
  ⟨enters_of Tryz.func116 (by kernel_rfl) rfl, fun X _ h _ => by
    show Calls Tryz.prog 116 #[.pointer (some ⟨h.b, h.o, none⟩)] X _
    go_enter Tryz.func116, Tryz.ntmps116
    go_wp2
    go_ret
    exact ⟨rfl, Below.refl _ _⟩⟩
theorem H2.putT {w w' : World} {lo B : Nat} {v1 v2 : Value} {l1 l2 : List Hdl} {h0 : Hdl} {e : Ending} (h : H2 w lo B v1 v2 l1 l2) (t : PutR w B 0 lo v1 l1 h0 e w') (hlo : lo ≤ w.heap.size) : ∃ u, H2 w' lo B u v2 (h0 :: l1) l2 ∧ Below lo w w' := by
  obtain ⟨_, u, t, ho, hu⟩ := t
  have nB : u.ownBlock ≠ some B := fun e => by
    rcases hu B e with q | q
    · exact h.n1 q
    · have := h.lt; omega
  have ne : u.ownBlock = none ∨ u.ownBlock ≠ v2.ownBlock := by
    cases e : u.ownBlock with
    | none => exact .inl rfl
    | some q =>
      right
      intro e2
      rcases hu q e with k | k
      · rcases h.tp.ne with z | z
        · rw [z] at k; cases k
        · exact z (by rw [k, e2])
      · have := h.tp.b.lt q e2.symm; omega
  exact ⟨u, ⟨t.cB, (t.cO 1 (by omega)).trans h.c1, fun o => (t.fr o).trans (h.fr o), ⟨ho, t.own h.tp.b h.n2 (by
      rcases h.tp.ne with e | e
      · cases e2 : v2.ownBlock with
        | none => exact .inl rfl
        | some q => right; rw [e]; simp
      · exact .inr fun e2 => e e2.symm), ne⟩, Nat.lt_of_lt_of_le h.lt t.size, h.le, nB, h.n2⟩, t.below h.tp.a h.le hlo⟩
theorem H2.putK {w w' : World} {lo B : Nat} {v1 v2 : Value} {l1 l2 : List Hdl} {h0 : Hdl} {e : Ending} (h : H2 w lo B v1 v2 l1 l2) (t : PutR w B 1 lo v2 l2 h0 e w') (hlo : lo ≤ w.heap.size) : ∃ u, H2 w' lo B v1 u l1 (h0 :: l2) ∧ Below lo w w' := by
  obtain ⟨_, u, t, ho, hu⟩ := t
  have nB : u.ownBlock ≠ some B := fun e => by
    rcases hu B e with q | q
    · exact h.n2 q
    · have := h.lt; omega
  have ne : v1.ownBlock = none ∨ v1.ownBlock ≠ u.ownBlock := by
    cases e : v1.ownBlock with
    | none => exact .inl rfl
    | some q =>
      right
      intro e2
      rcases hu q e2.symm with k | k
      · rcases h.tp.ne with z | z
        · rw [z] at e; cases e
        · exact z (by rw [e, k])
      · have := h.tp.a.lt q e; omega
  exact ⟨u, ⟨(t.cO 0 (by omega)).trans h.c0, t.cB, fun o => (t.fr o).trans (h.fr o), ⟨t.own h.tp.a h.n1 h.tp.ne, ho, ne⟩, Nat.lt_of_lt_of_le h.lt t.size, h.le, h.n1, nB⟩, t.below h.tp.b h.le hlo⟩
set_option maxRecDepth 100000 in
set_option maxHeartbeats 8000000 in
theorem lowerKept_any (w : World) (lo B : Nat) (v1 v2 : Value) (l1 l2 : List Hdl) (g : Int) (hg : 0 ≤ g) (h : H2 w lo B v1 v2 l1 l2) (hlo : lo ≤ w.heap.size) (hln : l1.length + l2.length ≤ 41) (hth : ∀ X, Below lo w X → ∀ h ∈ l1 ++ l2, HThere X h) (hz : ∀ h ∈ l1 ++ l2, entC h.x = 0) (hsl : ∀ X, Below lo w X → SetIs X) :
    Calls Tryz.prog 59 #[.pointer (some ⟨B, 0, none⟩), .int .i64 g] w fun e w' => e = .returned (.tuple #[]) ∧ (∃ u1 u2 m1 m2, H2 w' lo B u1 u2 m1 m2 ∧ (m1.map Hdl.x, m2.map Hdl.x) = lowR g (l1.map Hdl.x) (l2.map Hdl.x).reverse ∧ (∀ h ∈ m1 ++ m2, h ∈ l1 ++ l2) ∧ m1.length + m2.length = l1.length + l2.length) ∧ Below lo w w' := by
  have HTH := hidP hth
  have HZ := hidP hz
  have HSL := hidP hsl
  have CS := hidP (show ∀ X u1 u2 m1 m2, Below lo w X → H2 X lo B u1 u2 m1 m2 → (∀ h ∈ m1 ++ m2, h ∈ l1 ++ l2) → m1.length + m2.length = l1.length + l2.length → Calls Tryz.prog 91 #[.agg #[u2], .func (.func 92) #[] #[]] X fun e w' => e = .returned (.int .i64 (costsE (m2.map Hdl.x))) ∧ Below X.heap.size X w' from fun X u1 u2 m1 m2 hX hh hs hn => shSum_any X u2 lo m2 hh.tp.b (hsl X hX) (by omega) (fun x hx => hth X hX x (hs x (List.mem_append_right _ hx))) (fun x hx => hz x (hs x (List.mem_append_right _ hx))))
  have HL := hidP hlo
  have HG := hidP hg
  have HN := hidP hln
  have HH := hidP h
  have c1 := h.c1
  clear hth hz hsl hlo hg hln h
  go_enter Tryz.func59, Tryz.ntmps59
  go_wp2_with fail
  refine (CS.out w v1 v2 l1 l2 (Below.refl _ _) HH.out (fun _ h => h) rfl).mono ?_
  rintro e w1 ⟨rfl, hb⟩
  have H1 := hidP (HH.out.below hb)
  have K1 := hidP (hb.mono HL.out)
  clear hb c1 HH
  go_wp2_with fail
  go_loopw [4] (fun x wr => ∃ u1 u2 m1 m2, x = .int .i64 (costsE (m2.map Hdl.x)) ∧ H2 wr lo B u1 u2 m1 m2 ∧ lowR g (m1.map Hdl.x) (m2.map Hdl.x).reverse = lowR g (l1.map Hdl.x) (l2.map Hdl.x).reverse ∧ (∀ h ∈ m1 ++ m2, h ∈ l1 ++ l2) ∧ m1.length + m2.length = l1.length + l2.length ∧ Below lo w wr) (fun x _ => (intOf x).toNat)
  case atStart => exact ⟨v1, v2, l1, l2, rfl, H1.out, rfl, fun _ h => h, rfl, K1.out⟩
  case round =>
    obtain ⟨u1, u2, m1, m2, rfl, hh, hlw, hs, hnn, hb⟩ := hrel
    have HB := hidP hb
    have HH := hidP hh
    have HLW := hidP hlw
    have HS := hidP hs
    have HNN := hidP hnn
    clear hb hh hlw hs hnn H1 K1
    obtain ⟨S, hS⟩ : ∃ S, costsE (m2.map Hdl.x) = S := ⟨_, rfl⟩
    have HSm := hidP hS
    rw [hS]
    clear hS
    by_cases hgt : g < S
    · have hne : m2 ≠ [] := fun e => by
        have h1 := HSm.out
        have h2 := HG.out
        subst e
        simp [costsE] at h1
        omega
      obtain ⟨A, x, hAx⟩ : ∃ A x, m2 = A ++ [x] := ⟨m2.dropLast, m2.getLast hne, (List.dropLast_concat_getLast hne).symm⟩
      subst hAx
      have hz0 := HZ.out x (HS.out x (by simp))
      have CT := hidP (takeLast_any wr B 1 lo 116 #[] (fun _ => true) u2 (A ++ [x]) HH.out.c1 (HH.out.fr 1) HH.out.tp.b (by have := HN.out; have := HNN.out; omega) HH.out.n2 (anyEntry_pred wr _))
      have hcE : costsE ((A ++ [x]).map Hdl.x) = costsE (A.map Hdl.x) + entN x.x := by rw [List.map_append, costsE_app]; simp [costsE]
      have hS2 : S - entN x.x = costsE (A.map Hdl.x) := by rw [← HSm.out, hcE]; omega
      have HS2 := hidP hS2
      have hN1 := entN_le hz0
      have hN2 := entN_pos x.x
      have hLS := HSm.out
      have HLST := hidP (show lowR g (x.x :: m1.map Hdl.x) (A.map Hdl.x).reverse = lowR g (l1.map Hdl.x) (l2.map Hdl.x).reverse from by
        rw [← HLW.out, List.map_append, List.map_cons, List.map_nil]
        exact (lowR_step (by rw [show A.map Hdl.x ++ [x.x] = (A ++ [x]).map Hdl.x by simp, hLS]; omega)).symm)
      have hbd := costsE_bd ((A ++ [x]).map Hdl.x) (fun y hy => by obtain ⟨q, hq, rfl⟩ := List.mem_map.1 hy; exact HZ.out q (HS.out q (List.mem_append_right _ hq)))
      have hbd2 := costsE_bd (A.map Hdl.x) (fun y hy => by obtain ⟨q, hq, rfl⟩ := List.mem_map.1 hy; exact HZ.out q (HS.out q (by simp [hq])))
      have hS0 : 0 ≤ S - entN x.x := by rw [hS2]; exact hbd2.1
      have hS1 : S - entN x.x ≤ 400000 := by
        have := hbd.2
        rw [hLS] at this
        have := HNN.out
        have := HN.out
        simp only [List.length_map, List.length_append, List.length_singleton] at *
        omega
      clear HLW hcE hLS hbd hbd2
      go_wp2_with fail
      refine CT.out.mono ?_
      rintro e w2 (⟨r1, _⟩ | ⟨A', q, R, u, r1, _, r3, rfl, r5, r6, r7⟩)
      · exact absurd (r1 x (by simp)) (by simp)
      have hR : R = [] := by
        cases R with
        | nil => rfl
        | cons y R => exact absurd (r3 y (by simp)) (by simp)
      subst hR
      obtain ⟨rfl, e2⟩ := List.append_inj' r1 rfl
      have e2 := (List.cons.inj e2).1
      subst e2
      rw [List.append_nil] at r6
      obtain ⟨h2a, h2b⟩ := HH.out.tookK r5 r6 r7 (Nat.le_trans HL.out HB.out.size)
      have H2a := hidP h2a
      have K2 := hidP (HB.out.trans h2b)
      clear CT r1 r3 r5 r6 r7 h2a h2b HH HB
      have CP := hidP (putFirst_any w2 B 0 lo u1 m1 x H2a.out.c0 (H2a.out.fr 0) H2a.out.tp.a (by have := HN.out; have := HNN.out; omega) (Nat.le_trans HL.out K2.out.size) H2a.out.n1)
      go_wp2_with fail
      refine CP.out.mono ?_
      rintro e w3 hp
      have hp0 := hp.1
      subst hp0
      obtain ⟨u', h3a, h3b⟩ := H2a.out.putT hp (Nat.le_trans HL.out K2.out.size)
      have H3a := hidP h3a
      have K3 := hidP (K2.out.trans h3b)
      have CO := hidP (costOne_h w3 x (HSL.out w3 K3.out) (HTH.out w3 K3.out x (HS.out x (by simp))) hz0)
      clear hp h3a h3b H2a K2 CP hz0
      go_wp2_with fail
      refine CO.out.mono ?_
      rintro e w4 ⟨rfl, hb4⟩
      have K4 := hidP (K3.out.trans (hb4.mono (Nat.le_trans HL.out K3.out.size)))
      have H4 := hidP (H3a.out.below hb4)
      have HS3 := hidP (show ∀ h ∈ x :: m1 ++ A, h ∈ l1 ++ l2 from fun h hh => HS.out h (by simp at hh ⊢; rcases hh with hh | hh | hh; exact .inr (.inr hh); exact .inl hh; exact .inr (.inl hh)))
      have HN3 := hidP (show (x :: m1).length + A.length = l1.length + l2.length from by have := HNN.out; simp at this ⊢; omega)
      clear hb4 CO H3a K3 HS HNN
      have hlo2 : 0 ≤ entN x.x := by omega
      go_wp2_with fail
      go_roundw
      case rel => exact ⟨u', u, x :: m1, A, by rw [← HS2.out], H4.out, by rw [List.map_cons]; exact HLST.out, HS3.out, HN3.out, K4.out⟩
      case measure => simp [intOf]; omega
    · have HF := hidP (show (m1.map Hdl.x, m2.map Hdl.x) = lowR g (l1.map Hdl.x) (l2.map Hdl.x).reverse from by
        rw [← HLW.out]; exact (lowR_stop (by rw [HSm.out]; omega)).symm)
      go_wp2_with fail
      exact bodyPost_end (v := .tuple #[]) (by simp [results, Tryz.results59, go_sem]) rfl ⟨rfl, ⟨u1, u2, m1, m2, HH.out, HF.out, fun h hh => by have := HS.out h (by simpa using hh); simpa using this, HNN.out⟩, HB.out⟩
end Go.Proofs.YtdooopkpnanekaaGreatDoor
/-
  What a law keeps in memory while it goes on: facts that hang on the blocks of a stretch alone.
-/
namespace Go.Proofs.YtdooopkpnanekaaGreatDoor
open Go.ChangeShapes Go.WideShapes Go.ChangeAt Go.RowKit
theorem hidL {p : Prop} (h : p) : Hid p := h
/-- What C says hangs on the blocks from l up to h alone. -/
def Dep (l h : Nat) (C : World → Prop) : Prop :=
  ∀ X X' : World, h ≤ X.heap.size → X.heap.size ≤ X'.heap.size → (∀ b o, l ≤ b → b < h → X'.cell? ⟨b, o, none⟩ = X.cell? ⟨b, o, none⟩ ∧ X'.frozen? ⟨b, o, none⟩ = X.frozen? ⟨b, o, none⟩) → C X → C X'
structure At (l h : Nat) (C : Nat → Nat → World → Prop) (X : World) : Prop where
  le : h ≤ X.heap.size
  dep : Dep l h (C l h)
  val : C l h X
/-- Nothing is written but in the blocks from lo up to hi, and in new ones. -/
structure Wi (lo hi : Nat) (X X' : World) : Prop where
  size : X.heap.size ≤ X'.heap.size
  cell : ∀ b o, b < X.heap.size → (b < lo ∨ hi ≤ b) → X'.cell? ⟨b, o, none⟩ = X.cell? ⟨b, o, none⟩
  frozen : ∀ b o, b < X.heap.size → (b < lo ∨ hi ≤ b) → X'.frozen? ⟨b, o, none⟩ = X.frozen? ⟨b, o, none⟩
theorem At.wi {l h lo hi : Nat} {C : Nat → Nat → World → Prop} {X X' : World} (k : At l h C X) (g : Wi lo hi X X') (hd : h ≤ lo ∨ hi ≤ l) : At l h C X' :=
  ⟨Nat.le_trans k.le g.size, k.dep, k.dep X X' k.le g.size (fun b o h1 h2 => ⟨g.cell b o (Nat.lt_of_lt_of_le h2 k.le) (by omega), g.frozen b o (Nat.lt_of_lt_of_le h2 k.le) (by omega)⟩) k.val⟩
theorem Wi.of {lo hi : Nat} {X X' : World} (hb : Below X.heap.size X X') : Wi lo hi X X' :=
  ⟨hb.size, fun b o h _ => hb.cell (p := ⟨b, o, none⟩) h, fun b o h _ => hb.frozen (p := ⟨b, o, none⟩) h⟩
theorem At.keep {l h : Nat} {C : Nat → Nat → World → Prop} {X X' : World} (k : At l h C X) (hb : Below X.heap.size X X') : At l h C X' :=
  k.wi (lo := h) (hi := h) (Wi.of hb) (.inl (Nat.le_refl _))
theorem At.al {l h : Nat} {C : Nat → Nat → World → Prop} {X : World} (k : At l h C X) (o : Obj) : At l h C (X.alloc o) := k.keep ((Below.refl _ _).alloc (Nat.le_refl _) _)
theorem At.set {l h : Nat} {C : Nat → Nat → World → Prop} {X : World} (k : At l h C X) {b i : Nat} (u : Value) (hd : b < l ∨ h ≤ b) : At l h C (X.setCell ⟨b, i, none⟩ u) :=
  k.wi (lo := b) (hi := b + 1) ⟨by simp, fun b' o _ hne => World.cell?_setCell_other _ _ _ _ (fun e => by have := congrArg Addr.block e; simp only at this; omega), fun b' o _ _ => by rw [World.frozen?_setCell]⟩ (by omega)
/-- A box that lies there. -/
def Bx (b : Nat) (vs : List Value) (_ _ : Nat) (X : World) : Prop := (∀ i v, vs[i]? = some v → X.cell? ⟨b, i, none⟩ = some v) ∧ ∀ o, X.frozen? ⟨b, o, none⟩ = false
theorem Bx.dep (b : Nat) (vs : List Value) (l h : Nat) : Dep b (b + 1) (Bx b vs l h) := fun X X' _ _ h k =>
  ⟨fun i v hv => by rw [(h b i (Nat.le_refl _) (Nat.lt_succ_self _)).1]; exact k.1 i v hv, fun o => by rw [(h b o (Nat.le_refl _) (Nat.lt_succ_self _)).2]; exact k.2 o⟩
theorem Bx.new (X : World) (vs : List Value) (t : TypeId) : At X.heap.size (X.heap.size + 1) (Bx X.heap.size vs) (X.alloc (.cells vs.toArray t)) := by
  refine ⟨by simp, Bx.dep _ _ _ _, fun i v hv => ?_, fun o => ?_⟩
  · rw [World.cell?_alloc_mark]
    simpa using hv
  · have e := heap_alloc_new X (.cells vs.toArray t)
    unfold World.frozen?
    rw [e]
    simp
theorem Bx.newAt {X : World} {b : Nat} (hb : X.heap.size = b) (vs : List Value) (t : TypeId) : At b (b + 1) (Bx b vs) (X.alloc (.cells vs.toArray t)) := by
  subst hb
  exact Bx.new X vs t
theorem Bx.put {X : World} {b : Nat} {vs : List Value} (k : At b (b + 1) (Bx b vs) X) (i : Nat) (u : Value) (hi : i < vs.length) : At b (b + 1) (Bx b (vs.set i u)) (X.setCell ⟨b, i, none⟩ u) := by
  refine ⟨by simpa using k.le, Bx.dep _ _ _ _, fun j v hv => ?_, fun o => by rw [World.frozen?_setCell]; exact k.val.2 o⟩
  by_cases e : j = i
  · subst e
    rw [List.getElem?_set_self hi] at hv
    obtain rfl := Option.some.inj hv
    exact World.cell?_setCell_same _ _ _ (k.val.1 j (vs[j]) (List.getElem?_eq_getElem hi))
  · rw [List.getElem?_set_ne (fun q => e q.symm)] at hv
    rw [World.cell?_setCell_other _ _ _ _ (fun q => e (by have := congrArg Addr.off q; simpa using this.symm))]
    exact k.val.1 j v hv
theorem Wi.trans {lo hi : Nat} {X Y Z : World} (g : Wi lo hi X Y) (k : Wi lo hi Y Z) : Wi lo hi X Z :=
  ⟨Nat.le_trans g.size k.size, fun b o h1 h2 => by rw [k.cell b o (Nat.lt_of_lt_of_le h1 g.size) h2]; exact g.cell b o h1 h2, fun b o h1 h2 => by rw [k.frozen b o (Nat.lt_of_lt_of_le h1 g.size) h2]; exact g.frozen b o h1 h2⟩
theorem Wi.wide {lo hi l h : Nat} {X Y : World} (g : Wi lo hi X Y) (h1 : l ≤ lo) (h2 : hi ≤ h) : Wi l h X Y :=
  ⟨g.size, fun b o hb hd => g.cell b o hb (by omega), fun b o hb hd => g.frozen b o hb (by omega)⟩
end Go.Proofs.YtdooopkpnanekaaGreatDoor
/-
  A box that is written cell by cell.
-/
namespace Go.Proofs.YtdooopkpnanekaaGreatDoor
open Go.ChangeShapes Go.WideShapes Go.ChangeAt Go.RowKit
def putAll (X : World) (b : Nat) : Nat → List Value → World
  | _, [] => X
  | i, v :: vs => putAll (X.setCell ⟨b, i, none⟩ v) b (i + 1) vs
theorem Bx.putFrom {b : Nat} : ∀ (vs : List Value) (X : World) (i : Nat) (zs : List Value), zs.length = i + vs.length → At b (b + 1) (Bx b zs) X → At b (b + 1) (Bx b (zs.take i ++ vs)) (putAll X b i vs)
  | [], X, i, zs, hl, k => by
    rw [List.append_nil, List.take_of_length_le (by simp at hl; omega)]
    exact k
  | v :: vs, X, i, zs, hl, k => by
    have hi : i < zs.length := by rw [hl, List.length_cons]; omega
    have r := Bx.putFrom vs (X.setCell ⟨b, i, none⟩ v) (i + 1) (zs.set i v) (by rw [List.length_set, hl, List.length_cons]; omega) (Bx.put k i v hi)
    have e : (zs.set i v).take (i + 1) ++ vs = zs.take i ++ v :: vs := by
      rw [List.take_succ_eq_append_getElem (by rw [List.length_set]; exact hi), List.getElem_set_self, List.take_set_of_le (Nat.le_refl _)]
      simp
    rw [e] at r
    exact r
theorem Bx.putAll {b : Nat} {X : World} {zs : List Value} (k : At b (b + 1) (Bx b zs) X) (vs : List Value) (hl : zs.length = vs.length) : At b (b + 1) (Bx b vs) (putAll X b 0 vs) := by
  have r := Bx.putFrom vs X 0 zs (by omega) k
  simpa using r
theorem At.putAll {l h b : Nat} {C : Nat → Nat → World → Prop} (hd : b < l ∨ h ≤ b) : ∀ (vs : List Value) (i : Nat) {X : World}, At l h C X → At l h C (putAll X b i vs)
  | [], _, _, k => k
  | v :: vs, i, _, k => At.putAll hd vs (i + 1) (k.set v hd)
theorem below_putAll {base b : Nat} {w : World} (hb : base ≤ b) : ∀ (vs : List Value) (i : Nat) {X : World}, Below base w X → Below base w (putAll X b i vs)
  | [], _, _, k => k
  | v :: vs, i, _, k => below_putAll hb vs (i + 1) (k.setCell hb v)
end Go.Proofs.YtdooopkpnanekaaGreatDoor
/-
  A whole struct that is loaded out of one box and stored into another one, at once.
-/
namespace Go.Proofs.YtdooopkpnanekaaGreatDoor
open Go.ChangeShapes Go.WideShapes Go.ChangeAt Go.RowKit
theorem putAll_eq (b : Nat) : ∀ (vs : List Value) (i : Nat) (X : World), X.setCells b i vs = putAll X b i vs
  | [], _, _ => rfl
  | v :: vs, i, X => by rw [World.setCells, putAll, putAll_eq b vs (i + 1)]
theorem wp_copyOut {P : Program} {id s1 s2 d : Nat} {t ty1 ty2 : TypeId} {pos1 pos2 : String} {af1 af2 : Array Edge} {Q : Exit → Act → World → Prop} {a : Act} {X : World} {b1 b2 : Nat} {vs zs : List Value} {fs : _}
    (ht : P.underlying t = some (.struct fs)) (hz : (P.info? t).map (·.size) = some vs.length)
    (h1 : a.eval (.tmp s1) = .pointer (some ⟨b1, 0, none⟩)) (h2 : ∀ v, (a.put (some d) v).eval (.tmp s2) = .pointer (some ⟨b2, 0, none⟩)) (h3 : ∀ v, (a.put (some d) v).eval (.tmp d) = v)
    (k1 : ∀ i v, vs[i]? = some v → X.cell? ⟨b1, i, none⟩ = some v) (k2 : ∀ i v, zs[i]? = some v → X.cell? ⟨b2, i, none⟩ = some v) (f2 : ∀ o, X.frozen? ⟨b2, o, none⟩ = false) (hl : zs.length = vs.length) (one : vs.all (·.oneCell') = true)
    (K : Q .normal (a.put (some d) (.agg vs.toArray)) (putAll X b2 0 vs)) :
    (Code.region id #[{ dst := some d, op := .load t (.tmp s1), type := ty1, pos := pos1, after := af1, guard := none }, { dst := none, op := .store t (.tmp s2) (.tmp d), type := ty2, pos := pos2, after := af2, guard := none }] false).wp P Q a X := by
  have hadd : ∀ i, (⟨b1, 0, none⟩ : Addr).add i = ⟨b1, i, none⟩ := fun i => by unfold Addr.add; split <;> simp_all
  have hL := run_loadCells_list (P := P) X ⟨b1, 0, none⟩ vs (fun j v hv => by rw [hadd]; exact k1 j v hv)
  have hS := run_storeCells_cells (P := P) b2 0 vs 0 X (fun j hj => by
      obtain ⟨z, hzz⟩ : ∃ z, zs[j]? = some z := ⟨zs[j]'(by omega), List.getElem?_eq_getElem _⟩
      have := k2 j z hzz
      simp only [Nat.zero_add]
      rw [this]; rfl) (fun j _ => f2 _) (fun v hv => List.all_eq_true.1 one v hv)
  rw [Nat.add_zero, putAll_eq] at hS
  obtain ⟨inf, hi, hsz⟩ := Option.map_eq_some_iff.1 hz
  refine wp_region_list ?_
  have hL' : (loadCellsFrom ⟨b1, 0, none⟩ 0 vs.length #[]).run P X = .ok vs.toArray X := hL
  have e1 : ∀ ρ : Operand → Value, ρ (.tmp s1) = .pointer (some ⟨b1, 0, none⟩) → (execOp ρ { dst := some d, op := .load t (.tmp s1), type := ty1, pos := pos1, after := af1, guard := none }).run P X = .ok (.value (.agg vs.toArray)) X := fun ρ h => by
    simp [execOp, Instr.loadAt, loadVar, isAgg, sizeOf, typeInfo, underlying, h, ht, hi, hsz, hL', go_sem]
  have e2 : ∀ ρ : Operand → Value, ρ (.tmp s2) = .pointer (some ⟨b2, 0, none⟩) → ρ (.tmp d) = .agg vs.toArray → (execOp ρ { dst := none, op := .store t (.tmp s2) (.tmp d), type := ty2, pos := pos2, after := af2, guard := none }).run P X = .ok .skip (putAll X b2 0 vs) := fun ρ h h' => by
    simp [execOp, Instr.storeAt, storeVar, sizeOf, typeInfo, h, h', hi, hsz, hS, Value.cells, go_sem]
  have w1 := e1 a.eval h1
  have w2 := e2 (a.put (some d) (.agg vs.toArray)).eval (h2 _) (h3 _)
  clear hL hL' hS e1 e2 h1 h2 h3
  unfold wpList
  rw [if_pos (by simp [Region.wanted])]
  refine .inl ?_
  unfold Oper.wp
  rw [w1]
  show wpList _ _ _ _ _ _
  unfold wpList
  rw [if_pos (by simp [Region.wanted])]
  refine .inl ?_
  unfold Oper.wp
  rw [w2]
  show wpList _ _ _ _ _ _
  unfold wpList
  exact K
theorem wpList_loadAll {P : Program} {ops : Array Oper} {rest : List Oper} {s d b : Nat} {t ty : TypeId} {pos : String} {af : Array Edge} {Q : Exit → Act → World → Prop} {a : Act} {X : World} {vs : List Value} {fs : _}
    (ht : P.underlying t = some (.struct fs)) (hz : (P.info? t).map (·.size) = some vs.length)
    (h1 : a.eval (.tmp s) = .pointer (some ⟨b, 0, none⟩))
    (k1 : ∀ i v, vs[i]? = some v → X.cell? ⟨b, i, none⟩ = some v)
    (K : wpList P ops Q rest (a.put (some d) (.agg vs.toArray)) X) :
    wpList P ops Q ({ dst := some d, op := .load t (.tmp s), type := ty, pos := pos, after := af, guard := none } :: rest) a X := by
  have hadd : ∀ i, (⟨b, 0, none⟩ : Addr).add i = ⟨b, i, none⟩ := fun i => by unfold Addr.add; split <;> simp_all
  have hL := run_loadCells_list (P := P) X ⟨b, 0, none⟩ vs (fun j v hv => by rw [hadd]; exact k1 j v hv)
  obtain ⟨inf, hi, hsz⟩ := Option.map_eq_some_iff.1 hz
  have hL' : (loadCellsFrom ⟨b, 0, none⟩ 0 vs.length #[]).run P X = .ok vs.toArray X := hL
  have e1 : ∀ ρ : Operand → Value, ρ (.tmp s) = .pointer (some ⟨b, 0, none⟩) → (execOp ρ { dst := some d, op := .load t (.tmp s), type := ty, pos := pos, after := af, guard := none }).run P X = .ok (.value (.agg vs.toArray)) X := fun ρ h => by
    simp [execOp, Instr.loadAt, loadVar, isAgg, sizeOf, typeInfo, underlying, h, ht, hi, hsz, hL', go_sem]
  have w1 := e1 a.eval h1
  clear hL hL' e1 h1
  unfold wpList
  rw [if_pos (by simp [Region.wanted])]
  refine .inl ?_
  unfold Oper.wp
  rw [w1]
  exact K
theorem wpList_storeNew {P : Program} {ops : Array Oper} {rest : List Oper} {s d : Nat} {t ty : TypeId} {pos : String} {af : Array Edge} {Q : Exit → Act → World → Prop} {a : Act} {X : World} {c c' : Array Value}
    (hz : (P.info? t).map (·.size) = some c'.size) (hl : c.size = c'.size) (one : c'.all (·.oneCell') = true)
    (h1 : a.eval (.tmp s) = .pointer (some ⟨X.heap.size, 0, none⟩)) (h2 : a.eval (.tmp d) = .agg c')
    (K : wpList P ops Q rest (a.put none undef) (X.alloc (.cells c' t))) :
    wpList P ops Q ({ dst := none, op := .store t (.tmp s) (.tmp d), type := ty, pos := pos, after := af, guard := none } :: rest) a (X.alloc (.cells c t)) := by
  have hS := run_storeCells_new (P := P) X t c c' hz hl one
  obtain ⟨inf, hi, hsz⟩ := Option.map_eq_some_iff.1 hz
  have e2 : ∀ ρ : Operand → Value, ρ (.tmp s) = .pointer (some ⟨X.heap.size, 0, none⟩) → ρ (.tmp d) = .agg c' → (execOp ρ { dst := none, op := .store t (.tmp s) (.tmp d), type := ty, pos := pos, after := af, guard := none }).run P (X.alloc (.cells c t)) = .ok .skip (X.alloc (.cells c' t)) := fun ρ h h' => by
    have hS' : (storeCells ⟨X.heap.size, 0, none⟩ c'.toList 0).run P (X.alloc (.cells c t)) = .ok () (X.alloc (.cells c' t)) := hS
    simp [execOp, Instr.storeAt, storeVar, sizeOf, typeInfo, h, h', hi, hsz, hS', Value.cells, go_sem]
  have w2 := e2 a.eval h1 h2
  clear hS e2 h1 h2
  unfold wpList
  rw [if_pos (by simp [Region.wanted])]
  refine .inl ?_
  unfold Oper.wp
  rw [w2]
  exact K
theorem operwp_storeNew {P : Program} {next : Act → World → Prop} {s d : Nat} {t ty : TypeId} {pos : String} {af : Array Edge} {Q : Exit → Act → World → Prop} {a : Act} {X : World} {c c' : Array Value}
    (hz : (P.info? t).map (·.size) = some c'.size) (hl : c.size = c'.size) (one : c'.all (·.oneCell') = true)
    (h1 : a.eval (.tmp s) = .pointer (some ⟨X.heap.size, 0, none⟩)) (h2 : a.eval (.tmp d) = .agg c')
    (K : next (a.put none undef) (X.alloc (.cells c' t))) :
    Oper.wp P { dst := none, op := .store t (.tmp s) (.tmp d), type := ty, pos := pos, after := af, guard := none } a (X.alloc (.cells c t)) next Q := by
  have hS := run_storeCells_new (P := P) X t c c' hz hl one
  obtain ⟨inf, hi, hsz⟩ := Option.map_eq_some_iff.1 hz
  have e2 : ∀ ρ : Operand → Value, ρ (.tmp s) = .pointer (some ⟨X.heap.size, 0, none⟩) → ρ (.tmp d) = .agg c' → (execOp ρ { dst := none, op := .store t (.tmp s) (.tmp d), type := ty, pos := pos, after := af, guard := none }).run P (X.alloc (.cells c t)) = .ok .skip (X.alloc (.cells c' t)) := fun ρ h h' => by
    have hS' : (storeCells ⟨X.heap.size, 0, none⟩ c'.toList 0).run P (X.alloc (.cells c t)) = .ok () (X.alloc (.cells c' t)) := hS
    simp [execOp, Instr.storeAt, storeVar, sizeOf, typeInfo, h, h', hi, hsz, hS', Value.cells, go_sem]
  have w2 := e2 a.eval h1 h2
  clear hS e2 h1 h2
  unfold Oper.wp
  rw [w2]
  exact K
theorem operwp_loadAll {P : Program} {next : Act → World → Prop} {s d b : Nat} {t ty : TypeId} {pos : String} {af : Array Edge} {Q : Exit → Act → World → Prop} {a : Act} {X : World} {vs : List Value} {fs : _}
    (ht : P.underlying t = some (.struct fs)) (hz : (P.info? t).map (·.size) = some vs.length)
    (h1 : a.eval (.tmp s) = .pointer (some ⟨b, 0, none⟩))
    (k1 : ∀ i v, vs[i]? = some v → X.cell? ⟨b, i, none⟩ = some v)
    (K : next (a.put (some d) (.agg vs.toArray)) X) :
    Oper.wp P { dst := some d, op := .load t (.tmp s), type := ty, pos := pos, after := af, guard := none } a X next Q := by
  have hadd : ∀ i, (⟨b, 0, none⟩ : Addr).add i = ⟨b, i, none⟩ := fun i => by unfold Addr.add; split <;> simp_all
  have hL := run_loadCells_list (P := P) X ⟨b, 0, none⟩ vs (fun j v hv => by rw [hadd]; exact k1 j v hv)
  obtain ⟨inf, hi, hsz⟩ := Option.map_eq_some_iff.1 hz
  have hL' : (loadCellsFrom ⟨b, 0, none⟩ 0 vs.length #[]).run P X = .ok vs.toArray X := hL
  have e1 : ∀ ρ : Operand → Value, ρ (.tmp s) = .pointer (some ⟨b, 0, none⟩) → (execOp ρ { dst := some d, op := .load t (.tmp s), type := ty, pos := pos, after := af, guard := none }).run P X = .ok (.value (.agg vs.toArray)) X := fun ρ h => by
    simp [execOp, Instr.loadAt, loadVar, isAgg, sizeOf, typeInfo, underlying, h, ht, hi, hsz, hL', go_sem]
  have w1 := e1 a.eval h1
  clear hL hL' e1 h1
  unfold Oper.wp
  rw [w1]
  exact K
theorem loads_of {P : Program} {X : World} {b n : Nat} {vs : List Value} (k1 : ∀ i v, vs[i]? = some v → X.cell? ⟨b, i, none⟩ = some v) (hl : vs.length = n) :
    (loadCellsFrom ⟨b, 0, none⟩ 0 n #[]).run P X = .ok vs.toArray X := by
  have hadd : ∀ i, (⟨b, 0, none⟩ : Addr).add i = ⟨b, i, none⟩ := fun i => by unfold Addr.add; split <;> simp_all
  have hL := run_loadCells_list (P := P) X ⟨b, 0, none⟩ vs (fun j v hv => by rw [hadd]; exact k1 j v hv)
  rw [hl] at hL
  exact hL
theorem range_of {X : World} {b : Nat} {vs : List Value} (k1 : ∀ i v, vs[i]? = some v → X.cell? ⟨b, i, none⟩ = some v) : X.rangeAt b 0 vs := fun j v h => by
  rw [Nat.zero_add]
  exact k1 j v h
theorem loads_sub {P : Program} {X : World} {b off n : Nat} {vs us : List Value} (k1 : ∀ i v, vs[i]? = some v → X.cell? ⟨b, i, none⟩ = some v) (hu : (vs.drop off).take n = us) (hl : us.length = n) :
    (loadCellsFrom ⟨b, off, none⟩ 0 n #[]).run P X = .ok us.toArray X := by
  have hadd : ∀ i, (⟨b, off, none⟩ : Addr).add i = ⟨b, off + i, none⟩ := fun i => by unfold Addr.add; split <;> simp_all
  have hL := run_loadCells_list (P := P) X ⟨b, off, none⟩ us (fun j v hv => by
    rw [hadd]
    refine k1 (off + j) v ?_
    rw [← hu, List.getElem?_take] at hv
    split at hv
    · rw [← List.getElem?_drop]; exact hv
    · cases hv)
  rw [hl] at hL
  exact hL
theorem wpList_storeBox {P : Program} {ops : Array Oper} {rest : List Oper} {s d : Nat} {t ty : TypeId} {pos : String} {af : Array Edge} {Q : Exit → Act → World → Prop} {a : Act} {X : World} {b : Nat} {zs : List Value} {c' : Array Value}
    (hz : (P.info? t).map (·.size) = some c'.size) (hl : zs.length = c'.size) (one : c'.toList.all (·.oneCell') = true)
    (h1 : a.eval (.tmp s) = .pointer (some ⟨b, 0, none⟩)) (h2 : a.eval (.tmp d) = .agg c')
    (k2 : ∀ i v, zs[i]? = some v → X.cell? ⟨b, i, none⟩ = some v) (f2 : ∀ o, X.frozen? ⟨b, o, none⟩ = false)
    (K : wpList P ops Q rest (a.put none undef) (putAll X b 0 c'.toList)) :
    wpList P ops Q ({ dst := none, op := .store t (.tmp s) (.tmp d), type := ty, pos := pos, after := af, guard := none } :: rest) a X := by
  have hS := run_storeCells_cells (P := P) b 0 c'.toList 0 X (fun j hj => by
      obtain ⟨z, hzz⟩ : ∃ z, zs[j]? = some z := ⟨zs[j]'(by rw [hl]; simpa using hj), List.getElem?_eq_getElem _⟩
      have := k2 j z hzz
      simp only [Nat.zero_add]
      rw [this]; rfl) (fun j _ => f2 _) (fun v hv => List.all_eq_true.1 one v hv)
  rw [Nat.add_zero, putAll_eq] at hS
  obtain ⟨inf, hi, hsz⟩ := Option.map_eq_some_iff.1 hz
  have e2 : ∀ ρ : Operand → Value, ρ (.tmp s) = .pointer (some ⟨b, 0, none⟩) → ρ (.tmp d) = .agg c' → (execOp ρ { dst := none, op := .store t (.tmp s) (.tmp d), type := ty, pos := pos, after := af, guard := none }).run P X = .ok .skip (putAll X b 0 c'.toList) := fun ρ h h' => by
    simp [execOp, Instr.storeAt, storeVar, sizeOf, typeInfo, h, h', hi, hsz, hS, Value.cells, go_sem]
  have w2 := e2 a.eval h1 h2
  clear hS e2 h1 h2
  unfold wpList
  rw [if_pos (by simp [Region.wanted])]
  refine .inl ?_
  unfold Oper.wp
  rw [w2]
  exact K
theorem wpList_loadSub {P : Program} {ops : Array Oper} {rest : List Oper} {s d b off : Nat} {t ty : TypeId} {pos : String} {af : Array Edge} {Q : Exit → Act → World → Prop} {a : Act} {X : World} {vs us : List Value} {fs : _}
    (ht : P.underlying t = some (.struct fs)) (hz : (P.info? t).map (·.size) = some us.length)
    (h1 : a.eval (.tmp s) = .pointer (some ⟨b, off, none⟩))
    (k1 : ∀ i v, vs[i]? = some v → X.cell? ⟨b, i, none⟩ = some v)
    (hu : (vs.drop off).take us.length = us)
    (K : wpList P ops Q rest (a.put (some d) (.agg us.toArray)) X) :
    wpList P ops Q ({ dst := some d, op := .load t (.tmp s), type := ty, pos := pos, after := af, guard := none } :: rest) a X := by
  have hL' := loads_sub (P := P) k1 hu rfl
  obtain ⟨inf, hi, hsz⟩ := Option.map_eq_some_iff.1 hz
  have e1 : ∀ ρ : Operand → Value, ρ (.tmp s) = .pointer (some ⟨b, off, none⟩) → (execOp ρ { dst := some d, op := .load t (.tmp s), type := ty, pos := pos, after := af, guard := none }).run P X = .ok (.value (.agg us.toArray)) X := fun ρ h => by
    simp [execOp, Instr.loadAt, loadVar, isAgg, sizeOf, typeInfo, underlying, h, ht, hi, hsz, hL', go_sem]
  have w1 := e1 a.eval h1
  clear hL' e1 h1
  unfold wpList
  rw [if_pos (by simp [Region.wanted])]
  refine .inl ?_
  unfold Oper.wp
  rw [w1]
  exact K
theorem wpList_loadAllG {P : Program} {ops : Array Oper} {rest : List Oper} {s d b : Nat} {t ty : TypeId} {pos : String} {af : Array Edge} {gd : Option (Nat × Bool)} {Q : Exit → Act → World → Prop} {a : Act} {X : World} {vs : List Value} {fs : _}
    (hw : Region.wanted { dst := some d, op := .load t (.tmp s), type := ty, pos := pos, after := af, guard := gd } (yielded ops a.tmps) = true) (ht : P.underlying t = some (.struct fs)) (hz : (P.info? t).map (·.size) = some vs.length)
    (h1 : a.eval (.tmp s) = .pointer (some ⟨b, 0, none⟩))
    (k1 : ∀ i v, vs[i]? = some v → X.cell? ⟨b, i, none⟩ = some v)
    (K : wpList P ops Q rest (a.put (some d) (.agg vs.toArray)) X) :
    wpList P ops Q ({ dst := some d, op := .load t (.tmp s), type := ty, pos := pos, after := af, guard := gd } :: rest) a X := by
  have hadd : ∀ i, (⟨b, 0, none⟩ : Addr).add i = ⟨b, i, none⟩ := fun i => by unfold Addr.add; split <;> simp_all
  have hL := run_loadCells_list (P := P) X ⟨b, 0, none⟩ vs (fun j v hv => by rw [hadd]; exact k1 j v hv)
  obtain ⟨inf, hi, hsz⟩ := Option.map_eq_some_iff.1 hz
  have hL' : (loadCellsFrom ⟨b, 0, none⟩ 0 vs.length #[]).run P X = .ok vs.toArray X := hL
  have e1 : ∀ ρ : Operand → Value, ρ (.tmp s) = .pointer (some ⟨b, 0, none⟩) → (execOp ρ { dst := some d, op := .load t (.tmp s), type := ty, pos := pos, after := af, guard := gd }).run P X = .ok (.value (.agg vs.toArray)) X := fun ρ h => by
    simp [execOp, Instr.loadAt, loadVar, isAgg, sizeOf, typeInfo, underlying, h, ht, hi, hsz, hL', go_sem]
  have w1 := e1 a.eval h1
  clear hL hL' e1 h1
  unfold wpList
  rw [if_pos hw]
  refine .inl ?_
  unfold Oper.wp
  rw [w1]
  exact K
end Go.Proofs.YtdooopkpnanekaaGreatDoor
/-
  An entry is touched, by the model.
-/
namespace Go.Proofs.YtdooopkpnanekaaGreatDoor
open Go.ChangeShapes Go.WideShapes Go.ChangeAt Go.RowKit Go.Sort
set_option linter.unusedSimpArgs false
theorem entC_sizes3 {x : Ent} (h : entC x = 0) : x.hs.length ≤ 1048576 ∧ x.bl.length ≤ 1048576 ∧ x.ts.length ≤ 1048576 := by
  obtain ⟨z1, _, _, z4, z5, z6, _⟩ := entryC_zero h
  obtain ⟨h20, _⟩ := headsC_zero z4
  exact ⟨by omega, by omega, by omega⟩
theorem off_lt {key : ByteArray} {l1 l2 : List (Ent × EntR)} {x : Ent} (hf : (l1.map Prod.fst ++ l2.map Prod.fst).find? (isKey key) = some x) : (offKey key l1).length + (offKey key l2).length < l1.length + l2.length := by
  have hm := List.mem_of_find?_eq_some hf
  have hk := List.find?_some hf
  rw [← List.map_append] at hm
  obtain ⟨q, hq, e⟩ := List.mem_map.1 hm
  have h : ((l1 ++ l2).filter fun q => !isKey key q.1).length < (l1 ++ l2).length := List.length_filter_lt_length_iff_exists.2 ⟨q, hq, by rw [e, hk]; simp⟩
  rw [List.filter_append, List.length_append, List.length_append] at h
  exact h
theorem entI_size : (Tryz.prog.info? 52).map (·.size) = some 13 := by kernel_rfl
/-- How many entries the slice at a place has. -/
def lenAt (w : World) (B : Nat) : Nat := match w.cell? ⟨B, 3, none⟩ with | some (.slice _ n _) => n | _ => 0
theorem lenAt_of {w : World} {B n c : Nat} {a : Option Addr} (h : w.cell? ⟨B, 3, none⟩ = some (.slice a n c)) : lenAt w B = n := by unfold lenAt; rw [h]
theorem Only.four {B : Nat} {w w' : World} {v0 v1 v2 v3 : Value} {b : Nat} (k : S4 w b v0 v1 v2 v3) (h : Only B w w') (hn : b ≠ B) : S4 w' b v0 v1 v2 v3 := ⟨(h.cell k.lt hn 0).trans k.c0, (h.cell k.lt hn 1).trans k.c1, (h.cell k.lt hn 2).trans k.c2, (h.cell k.lt hn 3).trans k.c3, fun o => (h.frozen k.lt hn o).trans (k.fr o), Nat.lt_of_lt_of_le k.lt h.size⟩
/-- The state of a store of one's own that is touched. -/
structure TouI (w : World) (B base : Nat) (bu gu : Int) (u1 u2 : Value) (m1 m2 : List (Ent × EntR)) : Prop where
  s : S4 w B (.int .i64 bu) (.int .i64 gu) u1 u2
  o : StoO w base u1 u2 m1 m2
  le : base ≤ w.heap.size
  n1 : B ∉ u1.ownBlock.toList ++ foot m1
  n2 : B ∉ u2.ownBlock.toList ++ foot m2
theorem TouI.kept {w w' : World} {B base : Nat} {bu gu : Int} {u1 u2 v' : Value} {m1 m2 : List (Ent × EntR)} {x : Ent} {r : EntR} (h : TouI w B base bu gu u1 u2 m1 m2) (hx : EntLV w base x r) (h1 : ∀ b ∈ rblk r, b ∉ u1.ownBlock.toList ++ foot m1) (h2 : ∀ b ∈ rblk r, b ∉ foot m2) (hB : B ∉ rblk r) (hb : Below w.heap.size w w') (ho : OwnE w' w.heap.size v' ((x, r) :: m2)) : TouI (w'.setCell ⟨B, 3, none⟩ v') B base bu gu u1 v' m1 ((x, r) :: m2) := by
  have hBl := h.s.lt
  have k := h.o.k.ahead hx h2 hb ho h.le
  have ef : foot ((x, r) :: m2) = rblk r ++ foot m2 := by rw [← foot_one (x, r), ← foot_app]; rfl
  have nB : B ∉ v'.ownBlock.toList ++ foot ((x, r) :: m2) := fun hm => by
    rcases List.mem_append.1 hm with hm | hm
    · exact not_own ho hBl hm
    · rw [ef] at hm
      rcases List.mem_append.1 hm with hm | hm
      · exact hB hm
      · exact h.n2 (List.mem_append.2 (.inr hm))
  refine ⟨(h.s.keep hb).set3 _, ⟨(h.o.t.below hb).ne _ h.n1, k.ne _ nB, fun b hb1 hb2 => ?_⟩, by simpa using Nat.le_trans h.le hb.size, h.n1, nB⟩
  have hlt := h.o.t.lt hb1
  rcases List.mem_append.1 hb2 with q | q
  · exact not_own ho hlt q
  · rw [ef] at q
    rcases List.mem_append.1 q with q | q
    · exact h1 b q hb1
    · exact h.o.nd b hb1 (List.mem_append.2 (.inr q))
theorem TouI.move {w w' : World} {B base n c : Nat} {bu gu : Int} {a : Option Addr} {u1 v' : Value} {m1 m2 : List (Ent × EntR)} {x : Ent} {r : EntR} (hn : m2.length = n) (h : TouI w B base bu gu u1 (.slice a (n + 1) c) m1 (m2 ++ [(x, r)])) (hb : Below w.heap.size w w') (ho : OwnE w' w.heap.size v' ((x, r) :: m1)) : TouI ((w'.setCell ⟨B, 2, none⟩ v').setCell ⟨B, 3, none⟩ (.slice a n c)) B base bu gu v' (.slice a n c) ((x, r) :: m1) m2 := by
  have hBl := h.s.lt
  obtain ⟨hx, hd⟩ := h.o.k.last
  have k2 := EntsO.init hn h.o.k
  have hown : (Value.slice a n c).ownBlock = (Value.slice a (n + 1) c).ownBlock := by cases a <;> rfl
  have hsub : ∀ b, b ∈ (Value.slice a n c).ownBlock.toList ++ foot m2 → b ∈ (Value.slice a (n + 1) c).ownBlock.toList ++ foot (m2 ++ [(x, r)]) := fun b hb => by
    rw [hown] at hb
    rw [foot_app, ← List.append_assoc]
    exact List.mem_append.2 (.inl hb)
  have hsubr : ∀ b, b ∈ rblk r → b ∈ (Value.slice a (n + 1) c).ownBlock.toList ++ foot (m2 ++ [(x, r)]) := fun b hb => by
    rw [foot_app, foot_one]
    exact List.mem_append.2 (.inr (List.mem_append.2 (.inr hb)))
  have h1 : ∀ b ∈ rblk r, b ∉ foot m1 := fun b hb hm => h.o.nd b (List.mem_append.2 (.inr hm)) (hsubr b hb)
  have t := h.o.t.ahead hx h1 hb ho h.le
  have ef : foot ((x, r) :: m1) = rblk r ++ foot m1 := by rw [← foot_one (x, r), ← foot_app]; rfl
  have nB1 : B ∉ v'.ownBlock.toList ++ foot ((x, r) :: m1) := fun hm => by
    rcases List.mem_append.1 hm with hm | hm
    · exact not_own ho hBl hm
    · rw [ef] at hm
      rcases List.mem_append.1 hm with hm | hm
      · exact h.n2 (hsubr B hm)
      · exact h.n1 (List.mem_append.2 (.inr hm))
  have nB2 : B ∉ (Value.slice a n c).ownBlock.toList ++ foot m2 := fun hm => h.n2 (hsub B hm)
  refine ⟨((h.s.keep hb).set2 _).set3 _, ⟨(t.ne _ nB1).ne _ nB1, ((k2.below hb).ne _ nB2).ne _ nB2, fun b hb1 hb2 => ?_⟩, by simpa using Nat.le_trans h.le hb.size, nB1, nB2⟩
  have hlt := k2.lt hb2
  rcases List.mem_append.1 hb1 with q | q
  · exact not_own ho hlt q
  · rw [ef] at q
    rcases List.mem_append.1 q with q | q
    · exact (hd b q) (by rw [hown] at hb2; exact hb2)
    · exact h.o.nd b (List.mem_append.2 (.inr q)) (hsub b hb2)
set_option maxRecDepth 100000 in
set_option maxHeartbeats 32000000 in
theorem l8Touch_at (w : World) (B base : Nat) (bu gu : Int) (v1 v2 : Value) (l1 l2 : List (Ent × EntR)) (key : ByteArray) (x : Ent) (h : TouI w B base bu gu v1 v2 l1 l2) (hn : l1.length + l2.length ≤ 40) (hz : ∀ q ∈ l1 ++ l2, entC q.1 = 0) (hf : (l1.map Prod.fst ++ l2.map Prod.fst).find? (isKey key) = some x) (hgu : 0 ≤ gu) :
    Calls Tryz.prog 53 #[.pointer (some ⟨B, 0, none⟩), .string key] w fun e w' => e = .returned (.tuple #[]) ∧ (∃ u1 u2 m1 m2, TouI w' B base bu gu u1 u2 m1 m2 ∧ (m1.map Prod.fst, m2.map Prod.fst) = lowR gu ((l1.map Prod.fst).filter (fun x => !isKey key x)) (x :: (l2.map Prod.fst).filter (fun x => !isKey key x)).reverse) ∧ Below B w w' := by
  obtain ⟨a1, c1, e1, _, i1⟩ := h.o.t.in
  obtain ⟨a2, c2, e2, _, i2⟩ := h.o.k.in
  have hBl := h.s.lt
  have hzx : entC x = 0 := by
    have hm := List.mem_of_find?_eq_some hf
    rw [← List.map_append] at hm
    obtain ⟨q, hq, rfl⟩ := List.mem_map.1 hm
    exact hz q hq
  have CP := hidL (l8Peek_at w B key a1 a2 c1 c2 l1 l2 (by rw [← e1]; exact h.s.c2) (by rw [← e2]; exact h.s.c3) (by omega) (fun q hq => (entC_sizes3 (hz q hq))) i1 i2)
  have HK := hidL (show ∀ r w1, EntRow w1 w.heap.size x r → Below w.heap.size w w1 → TouI w1 B base bu gu v1 v2 l1 l2 ∧ EntLV w1 base x r ∧ (∀ b ∈ rblk r, w.heap.size ≤ b) from fun r w1 hr hb => ⟨⟨h.s.keep hb, ⟨h.o.t.below hb, h.o.k.below hb, h.o.nd⟩, Nat.le_trans h.le hb.size, h.n1, h.n2⟩, hr.lv.lower h.le, fun b hb => hr.lv.ge hb⟩)
  have HD := hidL (show ∀ X, TouI X B base bu gu v1 v2 l1 l2 → Calls Tryz.prog 120 #[.pointer (some ⟨B, 0, none⟩), .string key] X fun e w' => e = .returned (.tuple #[]) ∧ (∃ u1 u2, TouI w' B base bu gu u1 u2 (offKey key l1) (offKey key l2) ∧ (∀ b ∈ u1.ownBlock.toList, X.heap.size ≤ b) ∧ ∀ b ∈ u2.ownBlock.toList, X.heap.size ≤ b) ∧ Only B X w' from fun X hX => by
    refine (l8DropO_at X B base bu gu v1 v2 l1 l2 key hX.s hX.o hX.le hX.n1 hX.n2 (by omega) (by omega)).mono ?_
    rintro e w' ⟨r1, ⟨u1, u2, r2, r3, r4, r5, r6, r7⟩, r8⟩
    exact ⟨r1, ⟨u1, u2, ⟨r2, r3, Nat.le_trans hX.le r8.size, r4, r5⟩, r6, r7⟩, r8⟩)
  have HF := hidL hf
  have HFT := hidL (show (∀ b ∈ foot l1, b < w.heap.size) ∧ ∀ b ∈ foot l2, b < w.heap.size from ⟨fun b hb => h.o.t.lt (List.mem_append.2 (.inr hb)), fun b hb => h.o.k.lt (List.mem_append.2 (.inr hb))⟩)
  have HZ := hidL (show ∀ q ∈ (x :: (l1.map Prod.fst ++ l2.map Prod.fst)), entC q = 0 from fun q hq => by
    rcases List.mem_cons.1 hq with rfl | hq
    · exact hzx
    · rw [← List.map_append] at hq
      obtain ⟨p, hp, rfl⟩ := List.mem_map.1 hq
      exact hz p hp)
  have HLT := hidL (off_lt hf)
  have HN := hidL hn
  have HBL := hidL hBl
  have HGU := hidL hgu
  clear h e1 e2 i1 i2 hBl hzx hn hz hf hgu
  go_enter Tryz.func53, Tryz.ntmps53
  go_wp2_with fail
  refine CP.out.mono ?_
  rintro e w1 ⟨⟨y, r, hy, rfl, hr⟩ | ⟨hnone, _⟩, hb1⟩
  rotate_left
  · have := HF.out
    rw [hnone] at this
    cases this
  have hyx : y = x := by have := HF.out; rw [hy] at this; exact Option.some.inj this
  subst hyx
  obtain ⟨T1, X1, G1⟩ := HK.out r w1 hr hb1
  have HX1 := hidL X1
  have HT1 := hidL T1
  have HG1 := hidL G1
  have HB1 := hidL hb1
  clear hy hr hb1 T1 X1 G1 HK CP HF
  obtain ⟨V, hV⟩ : ∃ V, V = w1.alloc (.cells #[.string y.key, .int .i64 y.st, .slice r.ha y.hs.length r.hc, .slice r.ba y.bl.length r.bc, .int .i64 y.t, .int .i64 y.g, .int .i64 y.l, .int .i64 y.s, .int .i64 y.e, .bool y.b1, .bool y.b2, .slice r.ta y.ts.length r.tc, .int .i64 y.pins] 52) := ⟨_, rfl⟩
  have HV := hidL hV
  have aV : Below w1.heap.size w1 V := by rw [hV]; exact (Below.refl _ _).alloc (Nat.le_refl _) _
  have sV : w1.heap.size + 1 ≤ V.heap.size := by rw [hV]; simp
  obtain ⟨E, hE⟩ : ∃ E, w1.heap.size = E := ⟨_, rfl⟩
  have FE := hidL (show At E (E + 1) (Bx E [.string y.key, .int .i64 y.st, .slice r.ha y.hs.length r.hc, .slice r.ba y.bl.length r.bc, .int .i64 y.t, .int .i64 y.g, .int .i64 y.l, .int .i64 y.s, .int .i64 y.e, .bool y.b1, .bool y.b2, .slice r.ta y.ts.length r.tc, .int .i64 y.pins]) V by rw [hV, ← hE]; exact Bx.new _ [.string y.key, .int .i64 y.st, .slice r.ha y.hs.length r.hc, .slice r.ba y.bl.length r.bc, .int .i64 y.t, .int .i64 y.g, .int .i64 y.l, .int .i64 y.s, .int .i64 y.e, .bool y.b1, .bool y.b2, .slice r.ta y.ts.length r.tc, .int .i64 y.pins] _)
  have TV := hidL (show TouI V B base bu gu v1 v2 l1 l2 from ⟨HT1.out.s.keep aV, ⟨HT1.out.o.t.below aV, HT1.out.o.k.below aV, HT1.out.o.nd⟩, Nat.le_trans HT1.out.le aV.size, HT1.out.n1, HT1.out.n2⟩)
  have XV := hidL (HX1.out.below aV)
  have RB := hidL (show ∀ b ∈ rblk r, w.heap.size ≤ b ∧ b < E from fun b hb => ⟨HG1.out b hb, by rw [← hE]; exact HX1.out.lts.mem hb⟩)
  have KV := hidL (HB1.out.trans (aV.mono HB1.out.size))
  have SV := hidL (show w.heap.size ≤ E ∧ E < V.heap.size from ⟨by rw [← hE]; exact HB1.out.size, by rw [← hE]; exact sV⟩)
  clear aV sV hV HX1 HT1 HG1
  unfold entV entW
  go_wp2_with fail
  rw [← HV.out]
  refine (HD.out V TV.out).mono ?_
  rintro e w2 ⟨rfl, ⟨u1, u2, T2, g1, g2⟩, hO⟩
  have nBr : B ∉ rblk r := fun hm => by have := RB.out B hm; have := HBL.out; omega
  have NBR := hidL nBr
  have EB := hidL (show E ≠ B from by have := SV.out; have := HBL.out; omega)
  have X2 := hidL (hO.lv XV.out nBr)
  have HT2 := hidL T2
  have D1 := hidL (show ∀ b ∈ rblk r, b ∉ u1.ownBlock.toList ++ foot (offKey key l1) from fun b hb hm => by
    have h1 := RB.out b hb
    have h2 := SV.out
    rcases List.mem_append.1 hm with q | q
    · have := g1 b q; omega
    · have := HFT.out.1 b (foot_off q); omega)
  have D2 := hidL (show ∀ b ∈ rblk r, b ∉ foot (offKey key l2) from fun b hb hm => by
    have h1 := RB.out b hb
    have := HFT.out.2 b (foot_off hm); omega)
  have FE2 := hidL (show At E (E + 1) (Bx E [.string y.key, .int .i64 y.st, .slice r.ha y.hs.length r.hc, .slice r.ba y.bl.length r.bc, .int .i64 y.t, .int .i64 y.g, .int .i64 y.l, .int .i64 y.s, .int .i64 y.e, .bool y.b1, .bool y.b2, .slice r.ta y.ts.length r.tc, .int .i64 y.pins]) w2 from FE.out.wi (lo := B) (hi := B + 1) ⟨hO.size, fun b o hb hn => hO.cell hb (by omega) o, fun b o hb hn => hO.frozen hb (by omega) o⟩ (by have := EB.out; omega))
  have K2 := hidL ((KV.out.mono (Nat.le_of_lt HBL.out)).trans (hO.below (by have := SV.out; have := HBL.out; omega)))
  clear T2 g1 g2 hO nBr FE XV TV KV HD HFT HV
  obtain ⟨a3, c3, rfl, _, i3⟩ := HT2.out.o.k.in
  have I3 := hidL i3
  clear i3
  go_upto_region 2 with fail

  have HKS := hidL (show ∀ X, Below w2.heap.size w2 X → (fun Y : World => Y.cell? ⟨B, 3, none⟩ = some (.slice a3 (offKey key l2).length c3) ∧ Y.rangeAt E 0 [.string y.key, .int .i64 y.st, .slice r.ha y.hs.length r.hc, .slice r.ba y.bl.length r.bc, .int .i64 y.t, .int .i64 y.g, .int .i64 y.l, .int .i64 y.s, .int .i64 y.e, .bool y.b1, .bool y.b2, .slice r.ta y.ts.length r.tc, .int .i64 y.pins]) X from fun X hX => ⟨by rw [hX.cell (p := ⟨B, 3, none⟩) HT2.out.s.lt]; exact HT2.out.s.c3, range_of (FE2.out.keep hX).val.1⟩)
  have B0 := hidL (show Below w2.heap.size w2 w2.drew from (Below.refl _ _).drew)
  have HS0 := HKS.out _ B0.out
  refine wp_region_last (fun Y : World => Y.cell? ⟨B, 3, none⟩ = some (.slice a3 (offKey key l2).length c3) ∧ Y.rangeAt E 0 [.string y.key, .int .i64 y.st, .slice r.ha y.hs.length r.hc, .slice r.ba y.bl.length r.bc, .int .i64 y.t, .int .i64 y.g, .int .i64 y.l, .int .i64 y.s, .int .i64 y.e, .bool y.b1, .bool y.b2, .slice r.ta y.ts.length r.tc, .int .i64 y.pins]) 10 (by kernel_rfl) ?_
  refine butLast_take (i := 0) (oi := _) (v := .pointer (some ⟨B, 0, none⟩)) rfl (by kernel_rfl) (by kernel_rfl) (by kernel_rfl) (by kernel_rfl) (fun _ _ _ h => h) (Or.inl ⟨by kernel_rfl, ?_⟩) HS0 ?_
  · rintro X ⟨s1, s2⟩
    go_simp
  try simp only [Act.put, List.setIfInBounds_toArray, List.set_cons_zero, List.set_cons_succ]
  refine butLast_take (i := 1) (oi := _) (v := .agg #[.string y.key, .int .i64 y.st, .slice r.ha y.hs.length r.hc, .slice r.ba y.bl.length r.bc, .int .i64 y.t, .int .i64 y.g, .int .i64 y.l, .int .i64 y.s, .int .i64 y.e, .bool y.b1, .bool y.b2, .slice r.ta y.ts.length r.tc, .int .i64 y.pins]) rfl (by kernel_rfl) (by kernel_rfl) (by kernel_rfl) (by kernel_rfl) (fun _ _ _ h => h) (yieldsIf_load_mid (by rfl) _ _ rfl E 0 rfl _ _ (fun _ h => h.2) Tryz.underlying52 rfl entI_size) HS0 ?_
  try simp only [Act.put, List.setIfInBounds_toArray, List.set_cons_zero, List.set_cons_succ]
  refine butLast_take (i := 3) (oi := _) (v := .pointer (some ⟨B, 0, none⟩)) rfl (by kernel_rfl) (by kernel_rfl) (by kernel_rfl) (by kernel_rfl) (fun _ _ _ h => h) (Or.inl ⟨by kernel_rfl, ?_⟩) HS0 ?_
  · rintro X ⟨s1, s2⟩
    go_simp
  try simp only [Act.put, List.setIfInBounds_toArray, List.set_cons_zero, List.set_cons_succ]
  refine butLast_take (i := 4) (oi := _) (v := .pointer (some ⟨B, 0, none⟩)) rfl (by kernel_rfl) (by kernel_rfl) (by kernel_rfl) (by kernel_rfl) (fun _ _ _ h => h) (Or.inl ⟨by kernel_rfl, ?_⟩) HS0 ?_
  · rintro X ⟨s1, s2⟩
    go_simp
  try simp only [Act.put, List.setIfInBounds_toArray, List.set_cons_zero, List.set_cons_succ]
  refine butLast_take (i := 5) (oi := _) (v := .pointer (some ⟨B, 3, none⟩)) rfl (by kernel_rfl) (by kernel_rfl) (by kernel_rfl) (by kernel_rfl) (fun _ _ _ h => h) (Or.inl ⟨by kernel_rfl, ?_⟩) HS0 ?_
  · rintro X ⟨s1, s2⟩
    go_simp
  try simp only [Act.put, List.setIfInBounds_toArray, List.set_cons_zero, List.set_cons_succ]
  refine butLast_take (i := 6) (oi := _) (v := .slice a3 (offKey key l2).length c3) rfl (by kernel_rfl) (by kernel_rfl) (by kernel_rfl) (by kernel_rfl) (fun _ _ _ h => h) (Or.inl ⟨by kernel_rfl, ?_⟩) HS0 ?_
  · rintro X ⟨s1, s2⟩
    go_simp
  try simp only [Act.put, List.setIfInBounds_toArray, List.set_cons_zero, List.set_cons_succ]
  refine butLast_one (i := 2) rfl (by kernel_rfl) (fun K hK => ?_)
  go_simp
  have BA := hidL (show Below w2.heap.size w2 ((w2.alloc (.cells #[.string y.key, .int .i64 y.st, .slice r.ha y.hs.length r.hc, .slice r.ba y.bl.length r.bc, .int .i64 y.t, .int .i64 y.g, .int .i64 y.l, .int .i64 y.s, .int .i64 y.e, .bool y.b1, .bool y.b2, .slice r.ta y.ts.length r.tc, .int .i64 y.pins] 52)).drew) from ((Below.refl _ _).alloc (Nat.le_refl _) _).drew)
  refine hK _ _ (.inr (HKS.out _ BA.out)) ?_
  clear hK K
  try simp only [Act.put, List.setIfInBounds_toArray, List.set_cons_zero, List.set_cons_succ]
  have O1 := (OwnE.one w2 y r).below (Below.refl _ _).drew
  obtain ⟨D, hD⟩ : ∃ D, D = (w2.alloc (.cells #[.string y.key, .int .i64 y.st, .slice r.ha y.hs.length r.hc, .slice r.ba y.bl.length r.bc, .int .i64 y.t, .int .i64 y.g, .int .i64 y.l, .int .i64 y.s, .int .i64 y.e, .bool y.b1, .bool y.b2, .slice r.ta y.ts.length r.tc, .int .i64 y.pins] 52)).drew := ⟨_, rfl⟩
  rw [← hD] at O1 BA ⊢
  have HO1 := hidL O1
  have hOK := HKS.out D BA.out
  clear hD O1 HS0
  refine butLast_one (i := 7) rfl (by kernel_rfl) (fun K hK => ?_)
  refine step_append_entsIn D rfl _ _ rfl w2.heap.size _ [(y, r)] a3 c3 _ (offKey key l2) rfl rfl HO1.out rfl (I3.out.keep BA.out) (by simp; have := offKey_len key l2; have := HN.out; omega) BA.out.size (fun v3 w3 ho3 hb3 => ?_)
  have BB := hidL (BA.out.trans hb3)
  obtain ⟨va, vc, rfl, _⟩ := OwnE.form ho3
  obtain ⟨n4, hn4⟩ : ∃ n, ([(y, r)] ++ offKey key l2).length = n := ⟨_, rfl⟩
  have HN4 := hidL hn4
  rw [hn4] at ho3 ⊢
  clear hn4
  have HO3 := hidL ho3
  clear ho3 hb3 hOK
  refine hK _ _ (.inr (HKS.out _ BB.out)) ?_
  clear hK K
  try simp only [Act.put, List.setIfInBounds_toArray, List.set_cons_zero, List.set_cons_succ]
  refine butLast_one (i := 8) rfl (by kernel_rfl) (fun K hK => ?_)
  go_simp
  refine hK _ _ (.inr (HKS.out _ BB.out)) ?_
  clear hK K
  try simp only [Act.put, List.setIfInBounds_toArray, List.set_cons_zero, List.set_cons_succ]
  refine butLast_one (i := 9) rfl (by kernel_rfl) (fun K hK => ?_)
  go_simp
  refine hK _ _ (.inr (HKS.out _ BB.out)) ?_
  clear hK K
  try simp only [Act.put, List.setIfInBounds_toArray, List.set_cons_zero, List.set_cons_succ]
  have T3 := hidL (HT2.out.kept X2.out D1.out D2.out NBR.out BB.out HO3.out)
  have s3 := HT2.out.s.keep BB.out
  have p3 := s3.c3
  have f3 := s3.fr 3
  have KB := hidL (K2.out.trans (BB.out.mono (by have := K2.out.size; have := HBL.out; omega)))
  have HKT := hidL (show Below B w (w3.setCell ⟨B, 3, none⟩ (.slice va n4 vc)) from KB.out.setCell (Nat.le_refl _) _)
  refine butLast_one (i := 10) rfl (by kernel_rfl) (fun K hK => ?_)
  simp only [List.getElem_toArray, List.getElem_cons_succ, List.getElem_cons_zero]
  rw [if_pos (by simp [Region.wanted])]
  go_simp
  refine hK _ _ (.inl rfl) ?_
  clear hK K
  try simp only [Act.put, List.setIfInBounds_toArray, List.set_cons_zero, List.set_cons_succ]
  refine butLast_end (by kernel_rfl) ?_
  clear s3 p3 f3 HKS B0 BA BB HO1 HO3 X2 D1 D2 FE2 NBR EB RB SV HT2 I3 K2 KB
  have HLN := hidL (show (offKey key l1).length + ((y, r) :: offKey key l2).length ≤ 40 from by have := HLT.out; have := HN.out; simp only [List.length_cons]; omega)
  have HZ2 := hidL (show ∀ q ∈ offKey key l1 ++ (y, r) :: offKey key l2, entC q.1 = 0 from fun q hq => by
    simp only [List.mem_append, List.mem_cons] at hq
    rcases hq with hq | rfl | hq
    · exact HZ.out q.1 (List.mem_cons_of_mem _ (List.mem_append_left _ (List.mem_map_of_mem (List.mem_filter.1 hq).1)))
    · exact HZ.out _ (List.mem_cons_self ..)
    · exact HZ.out q.1 (List.mem_cons_of_mem _ (List.mem_append_right _ (List.mem_map_of_mem (List.mem_filter.1 hq).1))))
  have HR := hidL (show lowR gu ((offKey key l1).map Prod.fst) (((y, r) :: offKey key l2).map Prod.fst).reverse = lowR gu ((l1.map Prod.fst).filter (fun x => !isKey key x)) (y :: (l2.map Prod.fst).filter (fun x => !isKey key x)).reverse from by rw [List.map_cons, offKey_map, offKey_map])
  obtain ⟨W, hW⟩ : ∃ W, W = w3.setCell ⟨B, 3, none⟩ (.slice va n4 vc) := ⟨_, rfl⟩
  rw [← hW] at T3 HKT ⊢
  clear hW HZ HN HN4
  generalize offKey key l1 = q1 at *
  generalize (y, r) :: offKey key l2 = q2 at *
  obtain ⟨RES, hRES⟩ : ∃ R, lowR gu ((l1.map Prod.fst).filter (fun x => !isKey key x)) (y :: (l2.map Prod.fst).filter (fun x => !isKey key x)).reverse = R := ⟨_, rfl⟩
  rw [hRES] at HR
  have HRES := hidL hRES
  clear hRES
  generalize w2.heap.size = sz2 at *
  go_wp2_with fail
  go_loopw [6] (fun _ wr => ∃ u1 u2 m1 m2, TouI wr B base bu gu u1 u2 m1 m2 ∧ lowR gu (m1.map Prod.fst) (m2.map Prod.fst).reverse = RES ∧ m1.length + m2.length ≤ 40 ∧ (∀ q ∈ m1 ++ m2, entC q.1 = 0) ∧ Below B w wr) (fun _ wr => lenAt wr B)
  case atStart => exact ⟨_, _, q1, q2, T3.out, HR.out, HLN.out, HZ2.out, HKT.out⟩
  case round =>
    obtain ⟨u4, u5, m1, m2, t, hr, hl, hz, hb⟩ := hrel
    obtain ⟨a5, c5, rfl, hle5, i5⟩ := t.o.k.in
    obtain ⟨a4, c4, rfl, _, i4⟩ := t.o.t.in
    have T := hidL t
    have HRr := hidL hr
    have HLr := hidL hl
    have HZr := hidL hz
    have HBr := hidL hb
    have HLE := hidL hle5
    have I4 := hidL i4
    have I5 := hidL i5
    have CC := hidL (show ∀ X, Below wr.heap.size wr X → Calls Tryz.prog 95 #[.slice a5 m2.length c5] X fun e w' => e = .returned (.int .i64 (costsE (m2.map Prod.fst))) ∧ Below X.heap.size X w' from fun X hX => l8Costs_any X a5 c5 m2 (by omega) (i5.keep hX) (fun q hq => hz q (List.mem_append_right _ hq)))
    clear t hr hl hz hb hle5 i4 i5 T3 HR HLN HZ2 HKT HLT
    go_upto_region 3 with fail

    have HKS := hidL (show ∀ Y, Below wr.heap.size wr Y → Y.cell? ⟨B, 3, none⟩ = some (.slice a5 m2.length c5) ∧ Y.cell? ⟨B, 1, none⟩ = some (.int .i64 gu) from fun X hX => ⟨by rw [hX.cell (p := ⟨B, 3, none⟩) T.out.s.lt]; exact T.out.s.c3, by rw [hX.cell (p := ⟨B, 1, none⟩) T.out.s.lt]; exact T.out.s.c1⟩)
    have B0 := hidL (show Below wr.heap.size wr wr.drew from (Below.refl _ _).drew)
    have HS0 := HKS.out _ B0.out
    refine wp_region_held_drew (S := fun Y : World => Y.cell? ⟨B, 3, none⟩ = some (.slice a5 m2.length c5) ∧ Y.cell? ⟨B, 1, none⟩ = some (.int .i64 gu)) (by kernel_rfl) ?_ (fun hHeld => ?_)
    · exact HKS.out _ B0.out
    refine wpAnyH_take (i := 0) (oi := _) (v := .pointer (some ⟨B, 0, none⟩)) rfl (by kernel_rfl) (by kernel_rfl) (by kernel_rfl) (fun _ _ _ h => h) (Or.inl ⟨by kernel_rfl, ?_⟩) hHeld ?_
    · rintro X ⟨s1, s2⟩
      go_simp
    try simp only [Act.put, List.setIfInBounds_toArray, List.set_cons_zero, List.set_cons_succ]
    refine wpAnyH_take (i := 1) (oi := _) (v := .pointer (some ⟨B, 0, none⟩)) rfl (by kernel_rfl) (by kernel_rfl) (by kernel_rfl) (fun _ _ _ h => h) (Or.inl ⟨by kernel_rfl, ?_⟩) hHeld ?_
    · rintro X ⟨s1, s2⟩
      go_simp
    try simp only [Act.put, List.setIfInBounds_toArray, List.set_cons_zero, List.set_cons_succ]
    refine wpAnyH_take (i := 2) (oi := _) (v := .pointer (some ⟨B, 3, none⟩)) rfl (by kernel_rfl) (by kernel_rfl) (by kernel_rfl) (fun _ _ _ h => h) (Or.inl ⟨by kernel_rfl, ?_⟩) hHeld ?_
    · rintro X ⟨s1, s2⟩
      go_simp
    try simp only [Act.put, List.setIfInBounds_toArray, List.set_cons_zero, List.set_cons_succ]
    refine wpAnyH_take (i := 3) (oi := _) (v := .slice a5 m2.length c5) rfl (by kernel_rfl) (by kernel_rfl) (by kernel_rfl) (fun _ _ _ h => h) (Or.inl ⟨by kernel_rfl, ?_⟩) hHeld ?_
    · rintro X ⟨s1, s2⟩
      go_simp
    try simp only [Act.put, List.setIfInBounds_toArray, List.set_cons_zero, List.set_cons_succ]
    refine wpAnyH_take (i := 5) (oi := _) (v := .pointer (some ⟨B, 0, none⟩)) rfl (by kernel_rfl) (by kernel_rfl) (by kernel_rfl) (fun _ _ _ h => h) (Or.inl ⟨by kernel_rfl, ?_⟩) hHeld ?_
    · rintro X ⟨s1, s2⟩
      go_simp
    try simp only [Act.put, List.setIfInBounds_toArray, List.set_cons_zero, List.set_cons_succ]
    refine wpAnyH_take (i := 6) (oi := _) (v := .pointer (some ⟨B, 0, none⟩)) rfl (by kernel_rfl) (by kernel_rfl) (by kernel_rfl) (fun _ _ _ h => h) (Or.inl ⟨by kernel_rfl, ?_⟩) hHeld ?_
    · rintro X ⟨s1, s2⟩
      go_simp
    try simp only [Act.put, List.setIfInBounds_toArray, List.set_cons_zero, List.set_cons_succ]
    refine wpAnyH_take (i := 7) (oi := _) (v := .pointer (some ⟨B, 1, none⟩)) rfl (by kernel_rfl) (by kernel_rfl) (by kernel_rfl) (fun _ _ _ h => h) (Or.inl ⟨by kernel_rfl, ?_⟩) hHeld ?_
    · rintro X ⟨s1, s2⟩
      go_simp
    try simp only [Act.put, List.setIfInBounds_toArray, List.set_cons_zero, List.set_cons_succ]
    refine wpAnyH_take (i := 8) (oi := _) (v := .int .i64 gu) rfl (by kernel_rfl) (by kernel_rfl) (by kernel_rfl) (fun _ _ _ h => h) (Or.inl ⟨by kernel_rfl, ?_⟩) hHeld ?_
    · rintro X ⟨s1, s2⟩
      go_simp
    try simp only [Act.put, List.setIfInBounds_toArray, List.set_cons_zero, List.set_cons_succ]
    refine wpAnyH_ready (rs := [4]) (by kernel_rfl) (by simp) ?_
    refine AllReadyH.cons (o := _) rfl (fun K hK => ?_) AllReadyH.nil
    go_simp
    refine (CC.out _ B0.out).mono ?_
    rintro e0 w4 ⟨rfl, hb4⟩
    have B4 := hidL (B0.out.trans (hb4.mono B0.out.size))
    clear hb4 CC HS0
    go_wp2_with fail
    refine hK.out _ _ ?_ (fun hHeld => ?_)
    · exact HKS.out _ B4.out
    clear hK
    try simp only [Act.put, List.setIfInBounds_toArray, List.set_cons_zero, List.set_cons_succ]
    obtain ⟨SM, hSM⟩ : ∃ S, costsE (m2.map Prod.fst) = S := ⟨_, rfl⟩
    rw [hSM]
    have HSM := hidL hSM
    clear hSM
    refine wpAnyH_ready (rs := [9]) (by kernel_rfl) (by simp) ?_
    refine AllReadyH.cons (o := _) rfl (fun K hK => ?_) AllReadyH.nil
    go_simp
    refine hK.out _ _ ?_ (fun hHeld => ?_)
    · exact HKS.out _ B4.out
    clear hK
    try simp only [Act.put, List.setIfInBounds_toArray, List.set_cons_zero, List.set_cons_succ]
    refine wpAnyH_done (by kernel_rfl) ?_ _
    clear hHeld
    have T4 := hidL (show TouI w4 B base bu gu (.slice a4 m1.length c4) (.slice a5 m2.length c5) m1 m2 from ⟨T.out.s.keep B4.out, ⟨T.out.o.t.below B4.out, T.out.o.k.below B4.out, T.out.o.nd⟩, Nat.le_trans T.out.le B4.out.size, T.out.n1, T.out.n2⟩)
    have K4 := hidL (HBr.out.trans (B4.out.mono (Nat.le_of_lt T.out.s.lt)))
    have I44 := hidL (I4.out.keep B4.out)
    have I54 := hidL (I5.out.keep B4.out)
    have LA := hidL (lenAt_of T.out.s.c3)
    clear HKS B0 B4 HBr I4 I5 T
    by_cases hgt : gu < SM
    rotate_left
    · have HF := hidL (show (m1.map Prod.fst, m2.map Prod.fst) = RES from by rw [← HRr.out]; exact (lowR_stop (by rw [HSM.out]; omega)).symm)
      have g1 : ¬ gu < SM := hgt
      go_wp2_with fail
      exact bodyPost_end (v := .tuple #[]) (by simp [results, Tryz.results53, go_sem]) rfl ⟨rfl, ⟨_, _, m1, m2, T4.out, by rw [HF.out, ← HRES.out]; try simp⟩, K4.out⟩
    have hne : m2 ≠ [] := fun e => by
      have h1 := HSM.out
      have h2 := HGU.out
      subst e
      simp [costsE] at h1
      omega
    obtain ⟨A, q, hAq⟩ : ∃ A q, m2 = A ++ [q] := ⟨m2.dropLast, m2.getLast hne, (List.dropLast_concat_getLast hne).symm⟩
    subst hAq
    obtain ⟨z, rz⟩ := q
    obtain ⟨n, hn⟩ : ∃ n, A.length = n := ⟨_, rfl⟩
    have HNn := hidL hn
    have hAl : (A ++ [(z, rz)]).length = n + 1 := by simp [hn]
    rw [hAl] at T4 HLr HLE LA ⊢
    have HAL := hidL hAl
    clear hne hAl hn
    have HRn := hidL (show lowR gu (z :: m1.map Prod.fst) (A.map Prod.fst).reverse = RES from by
      rw [← HRr.out, List.map_append, List.map_cons, List.map_nil]
      exact (lowR_step (by rw [show A.map Prod.fst ++ [z] = (A ++ [(z, rz)]).map Prod.fst by simp, HSM.out]; omega)).symm)
    clear HRr HSM
    obtain ⟨b5, o5, rfl, at5⟩ : ∃ b off, a5 = some ⟨b, off, none⟩ ∧ EntsAt w4 b off (A ++ [(z, rz)]) := by
      rcases I54.out with h | h
      · simp at h
      · exact h
    have C13 := hidL (show ∀ j u, (entW z rz)[j]? = some u → w4.cell? ⟨b5, o5 + n * 13 + j, none⟩ = some u from fun j u hj => by
      have hq : (A ++ [(z, rz)])[n]? = some (z, rz) := by rw [← HNn.out]; simp
      have hj2 : j < 13 := (List.getElem?_eq_some_iff.1 hj).1
      rw [← hj]
      exact (at5 n (z, rz) hq).1 j hj2)
    have hlt5 : b5 < w4.heap.size := block_lt_of_cell (C13.out 0 _ rfl)
    clear at5 I54
    have p3 := T4.out.s.c3
    have gn : (0 : Int) ≤ (n : Int) := by omega
    have gn2 : (n : Int) ≤ 100 := by have := HLr.out; omega
    go_upto_region 5 with fail
    clear p3
    have hw : wrap64 (A.length : Int) = (n : Int) := by rw [HNn.out]; delta RowKit.wrap64; omega
    try simp only [hw]
    clear hw
    have HKS := hidL (show ∀ X, Below w4.heap.size w4 X → (fun Y : World => Y.cell? ⟨B, 3, none⟩ = some (.slice (some ⟨b5, o5, none⟩) (n + 1) c5) ∧ Y.cell? ⟨B, 2, none⟩ = some (.slice a4 m1.length c4) ∧ Y.rangeAt b5 (o5 + n * 13) [.string z.key, .int .i64 z.st, .slice rz.ha z.hs.length rz.hc, .slice rz.ba z.bl.length rz.bc, .int .i64 z.t, .int .i64 z.g, .int .i64 z.l, .int .i64 z.s, .int .i64 z.e, .bool z.b1, .bool z.b2, .slice rz.ta z.ts.length rz.tc, .int .i64 z.pins]) X from fun X hX => ⟨by rw [hX.cell (p := ⟨B, 3, none⟩) T4.out.s.lt]; exact T4.out.s.c3, by rw [hX.cell (p := ⟨B, 2, none⟩) T4.out.s.lt]; exact T4.out.s.c2, fun j u hj => by rw [hX.cell (p := ⟨b5, o5 + n * 13 + j, none⟩) hlt5]; exact C13.out j u hj⟩)
    have B0 := hidL (show Below w4.heap.size w4 w4.drew from (Below.refl _ _).drew)
    have HS0 := HKS.out _ B0.out
    refine wp_region_last (fun Y : World => Y.cell? ⟨B, 3, none⟩ = some (.slice (some ⟨b5, o5, none⟩) (n + 1) c5) ∧ Y.cell? ⟨B, 2, none⟩ = some (.slice a4 m1.length c4) ∧ Y.rangeAt b5 (o5 + n * 13) [.string z.key, .int .i64 z.st, .slice rz.ha z.hs.length rz.hc, .slice rz.ba z.bl.length rz.bc, .int .i64 z.t, .int .i64 z.g, .int .i64 z.l, .int .i64 z.s, .int .i64 z.e, .bool z.b1, .bool z.b2, .slice rz.ta z.ts.length rz.tc, .int .i64 z.pins]) 16 (by kernel_rfl) ?_
    refine butLast_take (i := 0) (oi := _) (v := .pointer (some ⟨B, 0, none⟩)) rfl (by kernel_rfl) (by kernel_rfl) (by kernel_rfl) (by kernel_rfl) (fun _ _ _ h => h) (Or.inl ⟨by kernel_rfl, ?_⟩) HS0 ?_
    · rintro X ⟨s1, s2, s3⟩
      go_simp
    try simp only [Act.put, List.setIfInBounds_toArray, List.set_cons_zero, List.set_cons_succ]
    refine butLast_take (i := 1) (oi := _) (v := .pointer (some ⟨B, 0, none⟩)) rfl (by kernel_rfl) (by kernel_rfl) (by kernel_rfl) (by kernel_rfl) (fun _ _ _ h => h) (Or.inl ⟨by kernel_rfl, ?_⟩) HS0 ?_
    · rintro X ⟨s1, s2, s3⟩
      go_simp
    try simp only [Act.put, List.setIfInBounds_toArray, List.set_cons_zero, List.set_cons_succ]
    refine butLast_take (i := 2) (oi := _) (v := .pointer (some ⟨B, 0, none⟩)) rfl (by kernel_rfl) (by kernel_rfl) (by kernel_rfl) (by kernel_rfl) (fun _ _ _ h => h) (Or.inl ⟨by kernel_rfl, ?_⟩) HS0 ?_
    · rintro X ⟨s1, s2, s3⟩
      go_simp
    try simp only [Act.put, List.setIfInBounds_toArray, List.set_cons_zero, List.set_cons_succ]
    refine butLast_take (i := 3) (oi := _) (v := .pointer (some ⟨B, 3, none⟩)) rfl (by kernel_rfl) (by kernel_rfl) (by kernel_rfl) (by kernel_rfl) (fun _ _ _ h => h) (Or.inl ⟨by kernel_rfl, ?_⟩) HS0 ?_
    · rintro X ⟨s1, s2, s3⟩
      go_simp
    try simp only [Act.put, List.setIfInBounds_toArray, List.set_cons_zero, List.set_cons_succ]
    refine butLast_take (i := 4) (oi := _) (v := .slice (some ⟨b5, o5, none⟩) (n + 1) c5) rfl (by kernel_rfl) (by kernel_rfl) (by kernel_rfl) (by kernel_rfl) (fun _ _ _ h => h) (Or.inl ⟨by kernel_rfl, ?_⟩) HS0 ?_
    · rintro X ⟨s1, s2, s3⟩
      go_simp
    try simp only [Act.put, List.setIfInBounds_toArray, List.set_cons_zero, List.set_cons_succ]
    refine butLast_take (i := 5) (oi := _) (v := .int .i64 (n : Int)) rfl (by kernel_rfl) (by kernel_rfl) (by kernel_rfl) (by kernel_rfl) (fun _ _ _ h => h) (Or.inl ⟨by kernel_rfl, ?_⟩) HS0 ?_
    · rintro X ⟨s1, s2, s3⟩
      go_simp
    try simp only [Act.put, List.setIfInBounds_toArray, List.set_cons_zero, List.set_cons_succ]
    refine butLast_take (i := 6) (oi := _) (v := .pointer (some ⟨b5, o5 + n * 13, none⟩)) rfl (by kernel_rfl) (by kernel_rfl) (by kernel_rfl) (by kernel_rfl) (fun _ _ _ h => h) (Or.inl ⟨by kernel_rfl, ?_⟩) HS0 ?_
    · rintro X ⟨s1, s2, s3⟩
      go_simp
      intro h
      exact absurd h (by omega)
    try simp only [Act.put, List.setIfInBounds_toArray, List.set_cons_zero, List.set_cons_succ]
    refine butLast_take (i := 7) (oi := _) (v := .agg #[.string z.key, .int .i64 z.st, .slice rz.ha z.hs.length rz.hc, .slice rz.ba z.bl.length rz.bc, .int .i64 z.t, .int .i64 z.g, .int .i64 z.l, .int .i64 z.s, .int .i64 z.e, .bool z.b1, .bool z.b2, .slice rz.ta z.ts.length rz.tc, .int .i64 z.pins]) rfl (by kernel_rfl) (by kernel_rfl) (by kernel_rfl) (by kernel_rfl) (fun _ _ _ h => h) (yieldsIf_load_mid (by rfl) _ _ rfl b5 (o5 + n * 13) rfl _ _ (fun _ h => h.2.2) Tryz.underlying52 rfl entI_size) HS0 ?_
    try simp only [Act.put, List.setIfInBounds_toArray, List.set_cons_zero, List.set_cons_succ]
    refine butLast_take (i := 9) (oi := _) (v := .pointer (some ⟨B, 0, none⟩)) rfl (by kernel_rfl) (by kernel_rfl) (by kernel_rfl) (by kernel_rfl) (fun _ _ _ h => h) (Or.inl ⟨by kernel_rfl, ?_⟩) HS0 ?_
    · rintro X ⟨s1, s2, s3⟩
      go_simp
    try simp only [Act.put, List.setIfInBounds_toArray, List.set_cons_zero, List.set_cons_succ]
    refine butLast_take (i := 10) (oi := _) (v := .pointer (some ⟨B, 0, none⟩)) rfl (by kernel_rfl) (by kernel_rfl) (by kernel_rfl) (by kernel_rfl) (fun _ _ _ h => h) (Or.inl ⟨by kernel_rfl, ?_⟩) HS0 ?_
    · rintro X ⟨s1, s2, s3⟩
      go_simp
    try simp only [Act.put, List.setIfInBounds_toArray, List.set_cons_zero, List.set_cons_succ]
    refine butLast_take (i := 11) (oi := _) (v := .pointer (some ⟨B, 2, none⟩)) rfl (by kernel_rfl) (by kernel_rfl) (by kernel_rfl) (by kernel_rfl) (fun _ _ _ h => h) (Or.inl ⟨by kernel_rfl, ?_⟩) HS0 ?_
    · rintro X ⟨s1, s2, s3⟩
      go_simp
    try simp only [Act.put, List.setIfInBounds_toArray, List.set_cons_zero, List.set_cons_succ]
    refine butLast_take (i := 12) (oi := _) (v := .slice a4 m1.length c4) rfl (by kernel_rfl) (by kernel_rfl) (by kernel_rfl) (by kernel_rfl) (fun _ _ _ h => h) (Or.inl ⟨by kernel_rfl, ?_⟩) HS0 ?_
    · rintro X ⟨s1, s2, s3⟩
      go_simp
    try simp only [Act.put, List.setIfInBounds_toArray, List.set_cons_zero, List.set_cons_succ]
    refine butLast_one (i := 8) rfl (by kernel_rfl) (fun K hK => ?_)
    go_simp
    have BA := hidL (show Below w4.heap.size w4 ((w4.alloc (.cells #[.string z.key, .int .i64 z.st, .slice rz.ha z.hs.length rz.hc, .slice rz.ba z.bl.length rz.bc, .int .i64 z.t, .int .i64 z.g, .int .i64 z.l, .int .i64 z.s, .int .i64 z.e, .bool z.b1, .bool z.b2, .slice rz.ta z.ts.length rz.tc, .int .i64 z.pins] 52)).drew) from ((Below.refl _ _).alloc (Nat.le_refl _) _).drew)
    refine hK _ _ (.inr (HKS.out _ BA.out)) ?_
    clear hK K
    try simp only [Act.put, List.setIfInBounds_toArray, List.set_cons_zero, List.set_cons_succ]
    have O1 := (OwnE.one w4 z rz).below (Below.refl _ _).drew
    obtain ⟨D, hD⟩ : ∃ D, D = (w4.alloc (.cells #[.string z.key, .int .i64 z.st, .slice rz.ha z.hs.length rz.hc, .slice rz.ba z.bl.length rz.bc, .int .i64 z.t, .int .i64 z.g, .int .i64 z.l, .int .i64 z.s, .int .i64 z.e, .bool z.b1, .bool z.b2, .slice rz.ta z.ts.length rz.tc, .int .i64 z.pins] 52)).drew := ⟨_, rfl⟩
    rw [← hD] at O1 BA ⊢
    have HO1 := hidL O1
    clear hD O1 HS0
    refine butLast_one (i := 13) rfl (by kernel_rfl) (fun K hK => ?_)
    refine step_append_entsIn D rfl _ _ rfl w4.heap.size _ [(z, rz)] a4 c4 _ m1 rfl rfl HO1.out rfl (I44.out.keep BA.out) (by simp; have := HLr.out; omega) BA.out.size (fun v5 w5 ho5 hb5 => ?_)
    have BB := hidL (BA.out.trans hb5)
    obtain ⟨va, vc, rfl, _⟩ := OwnE.form ho5
    obtain ⟨n6, hn6⟩ : ∃ n, ([(z, rz)] ++ m1).length = n := ⟨_, rfl⟩
    rw [hn6] at ho5 ⊢
    clear hn6
    have HO5 := hidL ho5
    clear ho5 hb5
    refine hK _ _ (.inr (HKS.out _ BB.out)) ?_
    clear hK K
    try simp only [Act.put, List.setIfInBounds_toArray, List.set_cons_zero, List.set_cons_succ]
    refine butLast_one (i := 14) rfl (by kernel_rfl) (fun K hK => ?_)
    go_simp
    refine hK _ _ (.inr (HKS.out _ BB.out)) ?_
    clear hK K
    try simp only [Act.put, List.setIfInBounds_toArray, List.set_cons_zero, List.set_cons_succ]
    refine butLast_one (i := 15) rfl (by kernel_rfl) (fun K hK => ?_)
    go_simp
    refine hK _ _ (.inr (HKS.out _ BB.out)) ?_
    clear hK K
    try simp only [Act.put, List.setIfInBounds_toArray, List.set_cons_zero, List.set_cons_succ]
    have T5 := hidL (T4.out.move HNn.out BB.out HO5.out)
    have s5 := T4.out.s.keep BB.out
    have p2 := s5.c2
    have f2 := s5.fr 2
    have S6 := hidL (s5.set2 (.slice va n6 vc))
    have KB := hidL (K4.out.trans (BB.out.mono (Nat.le_of_lt T4.out.s.lt)))
    have HKT := hidL (show Below B w ((w5.setCell ⟨B, 2, none⟩ (.slice va n6 vc)).setCell ⟨B, 3, none⟩ (.slice (some ⟨b5, o5, none⟩) n c5)) from (KB.out.setCell (Nat.le_refl _) _).setCell (Nat.le_refl _) _)
    refine butLast_one (i := 16) rfl (by kernel_rfl) (fun K hK => ?_)
    simp only [List.getElem_toArray, List.getElem_cons_succ, List.getElem_cons_zero]
    rw [if_pos (by simp [Region.wanted])]
    go_simp
    refine hK _ _ (.inl rfl) ?_
    clear hK K
    try simp only [Act.put, List.setIfInBounds_toArray, List.set_cons_zero, List.set_cons_succ]
    refine butLast_end (by kernel_rfl) ?_
    clear s5 p2 f2 HKS B0 BA BB HO1 HO5 K4 KB I44 C13 hlt5
    have p3 := S6.out.c3
    have f3 := S6.out.fr 3
    have gc : (n : Int) ≤ (c5 : Int) := by have := HLE.out; omega
    go_wp2_with fail
    go_roundw
    case rel =>
      exact ⟨_, _, (z, rz) :: m1, A, T5.out, by rw [List.map_cons]; exact HRn.out, by have := HLr.out; have := HNn.out; simp only [List.length_cons]; omega, fun q hq => HZr.out q (by simp only [List.mem_append, List.mem_cons] at hq ⊢; rcases hq with (rfl | hq) | hq; exact .inr (.inr (.inl rfl)); exact .inl hq; exact .inr (.inl hq)), HKT.out⟩
    case measure => rw [LA.out, lenAt_of T5.out.s.c3]; omega
end Go.Proofs.YtdooopkpnanekaaGreatDoor
/-
  PinEntry, by the program.
-/
namespace Go.Proofs.YtdooopkpnanekaaGreatDoor
open Go.ChangeShapes Go.WideShapes Go.ChangeAt Go.RowKit Go.Sort
theorem keyC_peek (bu gu : Int) (tl kl : List Ent) (key : ByteArray) : keyC bu gu tl kl key = (peekR bu gu tl kl key).1 := by
  unfold keyC
  by_cases hs : storeC bu gu tl kl = 0
  · rw [if_neg (by simpa using hs)]
    cases hf : (tl ++ kl).find? (isKey key) with
    | none => rw [peekR_none hs hf]; simp
    | some x => rw [peekR_some hs hf]; simp
  · rw [if_pos hs, peekR_bad hs]
/-- Where an entry lies that is pointed at. -/
theorem hdlsA_loc {w : World} {base n k : Nat} {a : Option Addr} {m : List (Ent × EntR)} {h : Hdl} (hm : EntsLV w base (.slice a n k) m) (hh : h ∈ hdlsA a m) : ∃ G A C, a = some ⟨G, 0, none⟩ ∧ m = A ++ (h.x, h.r) :: C ∧ h.b = G ∧ h.o = A.length * 13 := by
  rcases hm.form with ⟨e, rfl⟩ | ⟨G, c, e, _⟩
  · simp only [Value.slice.injEq] at e
    obtain ⟨rfl, _⟩ := e
    simp [hdlsA, hdls] at hh
  · simp only [Value.slice.injEq] at e
    obtain ⟨rfl, _⟩ := e
    simp only [hdlsA] at hh
    obtain ⟨i, hi⟩ := List.mem_iff_getElem?.1 hh
    unfold hdls at hi
    rw [List.getElem?_mapIdx] at hi
    obtain ⟨q, hq, rfl⟩ := Option.map_eq_some_iff.1 hi
    obtain ⟨A, C, e1, e2⟩ := mid_split hq
    exact ⟨G, A, C, rfl, e1, rfl, by rw [e2]; simp⟩
theorem turn_set {X : World} {base n1 k1 n2 k2 : Nat} {a1 a2 : Option Addr} {m1 m2 : List (Ent × EntR)} {key : ByteArray} {h : Hdl} (f : Ent → Ent) (j : Nat) (hj : j < 13) (u : Value) (hs : StoLV X base (.slice a1 n1 k1) (.slice a2 n2 k2) m1 m2) (nd : NdK ((m1 ++ m2).map Prod.fst)) (hh : h ∈ hdl2 a1 a2 m1 m2) (hk : isKey key h.x = true) (e : ∀ r, entW (f h.x) r = (entW h.x r).set j u) (eh : (f h.x).hs = h.x.hs) (eb : (f h.x).bl = h.x.bl) (et : (f h.x).ts = h.x.ts) :
    X.cell? ⟨h.b, h.o + j, none⟩ = (entW h.x h.r)[j]? ∧ X.frozen? ⟨h.b, h.o + j, none⟩ = false ∧ base ≤ h.b ∧ (h.b ∈ fp (.slice a1 n1 k1) m1 ∨ h.b ∈ fp (.slice a2 n2 k2) m2) ∧ StoLV (X.setCell ⟨h.b, h.o + j, none⟩ u) base (.slice a1 n1 k1) (.slice a2 n2 k2) (turnM (isKey key) f m1) (turnM (isKey key) f m2) := by
  rw [List.map_append] at nd
  obtain ⟨d1, d2, d3⟩ := NdK.app nd
  rcases List.mem_append.1 hh with hh | hh
  · obtain ⟨G, A, C, rfl, em, hb, ho⟩ := hdlsA_loc hs.t hh
    rw [hb, ho]
    have mid := NdK.mid (key := key) (by rw [← em]; exact d1) hk
    have z := hs.t.at
    have e1 : turnM (isKey key) f m1 = A ++ (f h.x, h.r) :: C := by rw [em]; exact turnM_mid hk mid.1 mid.2
    have e2 : turnM (isKey key) f m2 = m2 := turnM_none fun q hq => by
      by_cases c : isKey key q.1 = true
      · exact absurd (isKey_eq hk c) (d3 h.x (by rw [em]; simp) q.1 (List.mem_map_of_mem hq))
      · simpa using c
    refine ⟨z.2.2.2.2.1 A.length (h.x, h.r) (by rw [em]; exact mid_eq _ _ _) j hj, z.2.2.2.2.2 _, z.2.2.1, .inl (by simp [fp, Value.ownBlock]), ?_⟩
    rw [e1, e2]
    have hs' := hs
    rw [em] at hs'
    exact hs'.setT rfl j hj u (f h.x) (e h.r) eh eb et
  · obtain ⟨G, A, C, rfl, em, hb, ho⟩ := hdlsA_loc hs.k hh
    rw [hb, ho]
    have mid := NdK.mid (key := key) (by rw [← em]; exact d2) hk
    have z := hs.k.at
    have e1 : turnM (isKey key) f m2 = A ++ (f h.x, h.r) :: C := by rw [em]; exact turnM_mid hk mid.1 mid.2
    have e2 : turnM (isKey key) f m1 = m1 := turnM_none fun q hq => by
      by_cases c : isKey key q.1 = true
      · exact absurd (isKey_eq c hk) (d3 q.1 (List.mem_map_of_mem hq) h.x (by rw [em]; simp))
      · simpa using c
    refine ⟨z.2.2.2.2.1 A.length (h.x, h.r) (by rw [em]; exact mid_eq _ _ _) j hj, z.2.2.2.2.2 _, z.2.2.1, .inr (by simp [fp, Value.ownBlock]), ?_⟩
    rw [e1, e2]
    have hs' := hs
    rw [em] at hs'
    exact hs'.setK rfl j hj u (f h.x) (e h.r) eh eb et
set_option maxRecDepth 100000 in
set_option maxHeartbeats 16000000 in
theorem implPin_any (w : World) (bu gu by' : Int) (ta ka : Option Addr) (tc kc : Nat) (tl kl : List (Ent × EntR)) (key : ByteArray) (hset : SetIs w) (hl : tl.length ≤ 1048576) (hk : kl.length ≤ 1048576) (hto : ∀ q ∈ tl ++ kl, EntOk q.1) (hts : ∀ q ∈ tl ++ kl, ∀ t ∈ q.1.ts, t.size ≤ 1048576) (ht : EntsIn w ta tl) (hq : EntsIn w ka kl) :
    Calls Tryz.prog 40 #[.agg #[.int .i64 bu, .int .i64 gu, .slice ta tl.length tc, .slice ka kl.length kc], .string key, .int .i64 by'] w fun e w' => StoAns (pinA bu gu (tl.map Prod.fst) (kl.map Prod.fst) key by') w.heap.size e w' ∧ Below w.heap.size w w' := by
  have HKF : Hid (∀ X, Below w.heap.size w X → Calls Tryz.prog 55 #[.agg #[.int .i64 bu, .int .i64 gu, .slice ta tl.length tc, .slice ka kl.length kc], .string key] X fun r w' => r = .returned (.int .i64 (peekR bu gu (tl.map Prod.fst) (kl.map Prod.fst) key).1) ∧ Below X.heap.size X w') := fun X hb => by
    rw [← keyC_peek]; exact keyFault_any X bu gu ta ka tc kc tl kl key (hset.below hb) hl hk hto (ht.keep hb) (hq.keep hb)
  have HSO : Hid (∀ X, Below w.heap.size w X → Calls Tryz.prog 56 #[.agg #[.int .i64 bu, .int .i64 gu, .slice ta tl.length tc, .slice ka kl.length kc]] X fun e w' => (∃ v1 v2, e = .returned (.agg #[v1, v2]) ∧ TwoP w' X.heap.size v1 v2 (hdlsA ta tl) (hdlsA ka kl)) ∧ Below X.heap.size X w') := fun X hb => shelvesOf_any X bu gu ta ka tc kc tl kl hl hk (ht.keep hb) (hq.keep hb)
  have HTH : Hid (∀ X, Below w.heap.size w X → ∀ h ∈ hdl2 ta ka tl kl, HThere X h) := fun X hb => hdl2_there (ht.keep hb) (hq.keep hb)
  have HTS : Hid (∀ h ∈ hdl2 ta ka tl kl, ∀ t ∈ h.x.ts, t.size ≤ 1048576) := fun h hh => by
    have hm : h.x ∈ (tl ++ kl).map Prod.fst := by rw [List.map_append, ← hdl2_x ta ka]; exact List.mem_map_of_mem hh
    obtain ⟨q, hq, e⟩ := List.mem_map.1 hm
    rw [← e]; exact hts q hq
  have HX2 : Hid ((hdl2 ta ka tl kl).map Hdl.x = tl.map Prod.fst ++ kl.map Prod.fst) := hdl2_x _ _ _ _
  obtain ⟨W, hW⟩ : ∃ W, W = (w.alloc (.cells #[.int .i64 bu, .int .i64 gu, .slice ta tl.length tc, .slice ka kl.length kc] 28)).alloc (.cells #[.int .i64 0, .int .i64 0, .int .i64 0, .slice none 0 0, .slice none 0 0] 30) := ⟨_, rfl⟩
  have HW : Hid (W = (w.alloc (.cells #[.int .i64 bu, .int .i64 gu, .slice ta tl.length tc, .slice ka kl.length kc] 28)).alloc (.cells #[.int .i64 0, .int .i64 0, .int .i64 0, .slice none 0 0, .slice none 0 0] 30)) := hW
  have K0 : Hid (Below w.heap.size w W ∧ S4 W w.heap.size (.int .i64 bu) (.int .i64 gu) (.slice ta tl.length tc) (.slice ka kl.length kc) ∧ S5 W (w.heap.size + 1) (.int .i64 0) (.int .i64 0) (.int .i64 0) (.slice none 0 0) (.slice none 0 0) ∧ w.heap.size + 2 ≤ W.heap.size) := by
    rw [hW]
    refine ⟨((Below.refl _ _).alloc (Nat.le_refl _) _).alloc (by simp) _, (S4.new w _ _ _ _ _).keep ((Below.refl _ _).alloc (Nat.le_refl _) _), ?_, by simp⟩
    have := S5.new (w.alloc (.cells #[.int .i64 bu, .int .i64 gu, .slice ta tl.length tc, .slice ka kl.length kc] 28)) (.int .i64 0) (.int .i64 0) (.int .i64 0) (.slice none 0 0) (.slice none 0 0) 30
    simpa using this
  obtain ⟨A, hA⟩ : ∃ A, pinA bu gu (tl.map Prod.fst) (kl.map Prod.fst) key by' = A := ⟨_, rfl⟩
  rw [hA]
  unfold pinA at hA
  have HA : Hid (_ = A) := hA
  have HL1 : Hid ((hdlsA ta tl).map Hdl.x = tl.map Prod.fst ∧ (hdlsA ka kl).map Hdl.x = kl.map Prod.fst ∧ (hdlsA ta tl).length = tl.length ∧ (hdlsA ka kl).length = kl.length) := ⟨hdlsA_x _ _, hdlsA_x _ _, hdlsA_len _ _, hdlsA_len _ _⟩
  clear hW hl hk hto hts ht hq hA hset
  obtain ⟨P, hP⟩ : ∃ P, peekR bu gu (tl.map Prod.fst) (kl.map Prod.fst) key = P := ⟨_, rfl⟩
  have HP : Hid (peekR bu gu (tl.map Prod.fst) (kl.map Prod.fst) key = P) := hP
  rw [hP] at HKF HA
  clear hP
  obtain ⟨c, x⟩ := P
  simp only at HKF HA
  have e0 := K0.out.2.1.c0
  have e1 := K0.out.2.1.c1
  have e2 := K0.out.2.1.c2
  have e3 := K0.out.2.1.c3
  rw [HW.out] at e0 e1 e2 e3
  obtain ⟨tn, htn⟩ : ∃ n, Hid (tl.length = n) := ⟨_, rfl⟩
  obtain ⟨kn, hkn⟩ : ∃ n, Hid (kl.length = n) := ⟨_, rfl⟩
  rw [htn.out, hkn.out] at HKF HSO HW K0 HL1 ⊢
  rw [htn.out] at e0 e1 e2 e3
  rw [hkn.out] at e0 e1 e2 e3
  by_cases hc : c = 0
  · subst hc
    obtain ⟨hst, hfi⟩ := peekR_zero (bu := bu) (gu := gu) (tl := tl.map Prod.fst) (kl := kl.map Prod.fst) (key := key) (by rw [HP.out])
    rw [HP.out] at hfi
    simp only at hfi
    have hln := (storeC_zero hst).2.1
    rw [List.length_map, List.length_map, htn.out, hkn.out] at hln
    have HXP : Hid (0 ≤ x.pins ∧ x.pins ≤ 20 ∧ isKey key x = true) := by
      have := entC_pins (storeC_ent hst x (List.mem_of_find?_eq_some hfi))
      exact ⟨this.1, this.2, List.find?_some hfi⟩
    have HZC : Hid (∀ h ∈ hdl2 ta ka tl kl, entC h.x = 0) := fun h hh => storeC_ent hst h.x (by rw [← HX2.out]; exact List.mem_map_of_mem hh)
    have HF1 : Hid (∀ X v1 v2 base, Below w.heap.size w X → TwoP X base v1 v2 (hdlsA ta tl) (hdlsA ka kl) → Calls Tryz.prog 103 #[.agg #[v1, v2], .string key] X fun e w' => (∃ b o, e = .returned (.pointer (some ⟨b, o, none⟩)) ∧ w'.cell? ⟨b, o + 12, none⟩ = some (.int .i64 x.pins)) ∧ Below X.heap.size X w') := fun X v1 v2 base hb h => by
      refine (findP_any X v1 v2 base _ _ key h (by rw [HL1.out.2.2.1, HL1.out.2.2.2]; omega) (HTH.out X hb)).mono ?_
      rintro e w' ⟨⟨v, rfl, hv⟩, hb'⟩
      refine ⟨?_, hb'⟩
      rcases hv with ⟨h, hh, hx, rfl⟩ | ⟨hx, _⟩
      · have hx' : ((hdl2 ta ka tl kl).map Hdl.x).find? (isKey key) = some h.x := hx
        rw [HX2.out, hfi] at hx'
        have ex : x = h.x := Option.some.inj hx'
        have := (HTH.out w' (hb.trans (hb'.mono hb.size)) h hh).1 12 (by omega)
        exact ⟨h.b, h.o, rfl, by rw [ex]; exact this⟩
      · have hx' : ((hdl2 ta ka tl kl).map Hdl.x).find? (isKey key) = none := hx
        rw [HX2.out, hfi] at hx'
        exact absurd hx' (by simp)
    have HSL : Hid (∀ X v1 v2 base, Below w.heap.size w X → TwoP X base v1 v2 (hdlsA ta tl) (hdlsA ka kl) → Calls Tryz.prog 60 #[.agg #[v1, v2], .agg #[.int .i64 bu, .int .i64 gu, .slice ta tn tc, .slice ka kn kc]] X fun e w' => (∃ a1 k1 n1 a2 k2 n2 m1 m2, e = .returned (.agg #[.int .i64 bu, .int .i64 gu, .slice a1 n1 k1, .slice a2 n2 k2]) ∧ m1.map Prod.fst = tl.map Prod.fst ∧ m2.map Prod.fst = kl.map Prod.fst ∧ StoLV w' X.heap.size (.slice a1 n1 k1) (.slice a2 n2 k2) m1 m2) ∧ Below X.heap.size X w') := fun X v1 v2 base hb h => by
      refine (storeLike_any X v1 v2 base _ _ bu gu ta ka tc kc tn kn h (by rw [HL1.out.2.2.1, HL1.out.2.2.2]; omega) (HTH.out X hb) HZC.out HTS.out).mono ?_
      rintro e w' ⟨⟨a1, k1, n1, a2, k2, n2, m1, m2, rfl, q1, q2, o⟩, hb'⟩
      exact ⟨⟨a1, k1, n1, a2, k2, n2, m1, m2, rfl, by rw [q1, HL1.out.1], by rw [q2, HL1.out.2.1], o.lv⟩, hb'⟩
    have HS2 : Hid (∀ X base a1 k1 n1 a2 k2 n2 m1 m2, m1.map Prod.fst = tl.map Prod.fst → m2.map Prod.fst = kl.map Prod.fst → StoLV X base (.slice a1 n1 k1) (.slice a2 n2 k2) m1 m2 → Calls Tryz.prog 56 #[.agg #[.int .i64 bu, .int .i64 gu, .slice a1 n1 k1, .slice a2 n2 k2]] X fun e w' => (∃ v1 v2, e = .returned (.agg #[v1, v2]) ∧ Calls Tryz.prog 103 #[.agg #[v1, v2], .string key] w' fun e w'' => (∃ b o, e = .returned (.pointer (some ⟨b, o, none⟩)) ∧ w''.cell? ⟨b, o + 12, none⟩ = some (.int .i64 x.pins) ∧ w''.frozen? ⟨b, o + 12, none⟩ = false ∧ base ≤ b ∧ (b ∈ fp (.slice a1 n1 k1) m1 ∨ b ∈ fp (.slice a2 n2 k2) m2) ∧ StoLV (w''.setCell ⟨b, o + 12, none⟩ (.int .i64 (x.pins + by'))) base (.slice a1 n1 k1) (.slice a2 n2 k2) (turnM (isKey key) (pinBy by') m1) (turnM (isKey key) (pinBy by') m2)) ∧ Below w'.heap.size w' w'') ∧ Below X.heap.size X w') := fun X base a1 k1 n1 a2 k2 n2 m1 m2 q1 q2 o => by
      obtain ⟨rfl, i1⟩ := slice_len o.t
      obtain ⟨rfl, i2⟩ := slice_len o.k
      have nd := storeC_nd hst
      rw [← q1, ← q2, ← List.map_append] at nd
      refine (shFind_any X bu gu a1 a2 k1 k2 m1 m2 key (by rw [q1, q2]; exact hst) i1 i2).mono ?_
      rintro e w' ⟨⟨v1, v2, rfl, hF⟩, hb'⟩
      refine ⟨⟨v1, v2, rfl, hF.mono ?_⟩, hb'⟩
      rintro e w'' ⟨⟨v, rfl, hv⟩, hb''⟩
      refine ⟨?_, hb''⟩
      have ofi : ((hdl2 a1 a2 m1 m2).map Hdl.x).find? (isKey key) = some x := by rw [hdl2_x, q1, q2]; exact hfi
      rcases hv with ⟨h, hh, hx, rfl⟩ | ⟨hx, _⟩
      · rw [ofi] at hx
        have ex : x = h.x := Option.some.inj hx
        have ts := turn_set (f := pinBy by') 12 (by omega) (.int .i64 (h.x.pins + by')) ((o.below hb').below hb'') nd hh (by rw [← ex]; exact HXP.out.2.2) (fun r => rfl) rfl rfl rfl
        rw [← ex] at ts
        exact ⟨h.b, h.o, rfl, ts.1, ts.2.1, ts.2.2.1, ts.2.2.2.1, ts.2.2.2.2⟩
      · rw [ofi] at hx; exact absurd hx (by simp)
    have HA2 : Hid (A = if ¬ (0 ≤ x.pins + by' ∧ x.pins + by' ≤ 20) then badA 3 else ⟨0, bu, gu, turnE (isKey key) (pinBy by') (tl.map Prod.fst), turnE (isKey key) (pinBy by') (kl.map Prod.fst)⟩) := by have := HA.out; simp only [ne_eq, not_true_eq_false, if_false] at this; exact this.symm
    obtain ⟨xp0, xp1, _⟩ := HXP.out
    clear HA HP HX2 HTH HTS HZC hst hfi hln htn hkn HL1 HXP
    generalize x.pins = xp at *
    go_enter Tryz.func40, Tryz.ntmps40
    go_wp2_with fail
    rw [← HW.out]
    refine (HKF.out _ K0.out.1).mono ?_
    rintro r0 w1 ⟨rfl, hb1⟩
    have K1 : Hid (Below w.heap.size w w1 ∧ S4 w1 w.heap.size (.int .i64 bu) (.int .i64 gu) (.slice ta tn tc) (.slice ka kn kc) ∧ S5 w1 (w.heap.size + 1) (.int .i64 0) (.int .i64 0) (.int .i64 0) (.slice none 0 0) (.slice none 0 0) ∧ w.heap.size + 2 ≤ w1.heap.size) := ⟨K0.out.1.trans (hb1.mono K0.out.1.size), K0.out.2.1.keep hb1, K0.out.2.2.1.keep hb1, by have := K0.out.2.2.2; have := hb1.size; omega⟩
    clear K0 HW hb1 HKF e0 e1 e2 e3
    have e0 := K1.out.2.1.c0
    have e1 := K1.out.2.1.c1
    have e2 := K1.out.2.1.c2
    have e3 := K1.out.2.1.c3
    go_wp2_with fail
    refine (HSO.out _ K1.out.1).mono ?_
    rintro r0 w2 ⟨⟨v1, v2, rfl, tp⟩, hb2⟩
    obtain ⟨b1, d1, rfl, _⟩ := tp.a.form
    obtain ⟨b2, d2, rfl, _⟩ := tp.b.form
    generalize (hdlsA ta tl).length = l1 at *
    generalize (hdlsA ka kl).length = l2 at *
    obtain ⟨V2, hV2⟩ : ∃ V, V = w2.alloc (.cells #[.slice b1 l1 d1, .slice b2 l2 d2] 98) := ⟨_, rfl⟩
    have HV2 : Hid (V2 = w2.alloc (.cells #[.slice b1 l1 d1, .slice b2 l2 d2] 98)) := hV2
    have aV2 : Below w2.heap.size w2 V2 := by rw [hV2]; exact (Below.refl _ _).alloc (Nat.le_refl _) _
    have bV2 : Below w1.heap.size w1 V2 := hb2.trans (aV2.mono hb2.size)
    have K2 : Hid (Below w.heap.size w V2 ∧ S4 V2 w.heap.size (.int .i64 bu) (.int .i64 gu) (.slice ta tn tc) (.slice ka kn kc) ∧ S5 V2 (w.heap.size + 1) (.int .i64 0) (.int .i64 0) (.int .i64 0) (.slice none 0 0) (.slice none 0 0) ∧ TwoP V2 w1.heap.size (.slice b1 l1 d1) (.slice b2 l2 d2) (hdlsA ta tl) (hdlsA ka kl) ∧ (V2.cell? ⟨w2.heap.size, 0, none⟩ = some (.slice b1 l1 d1) ∧ V2.cell? ⟨w2.heap.size, 1, none⟩ = some (.slice b2 l2 d2)) ∧ w2.heap.size < V2.heap.size ∧ w.heap.size + 2 ≤ V2.heap.size) := ⟨K1.out.1.trans (bV2.mono K1.out.1.size), K1.out.2.1.keep bV2, K1.out.2.2.1.keep bV2, tp.below aV2, by rw [hV2]; simp, by rw [hV2]; simp, by have := K1.out.2.2.2; have := bV2.size; omega⟩
    clear hV2 aV2 bV2 hb2 tp K1 HSO e0 e1 e2 e3
    obtain ⟨y0, y1⟩ := K2.out.2.2.2.2.1
    rw [HV2.out] at y0 y1
    go_wp2_with fail
    rw [← HV2.out]
    rw [← HV2.out] at y0 y1
    refine (HF1.out _ _ _ _ K2.out.1 K2.out.2.2.2.1).mono ?_
    rintro r0 w3 ⟨⟨pb, po, rfl, yp⟩, hb3⟩
    have K3 : Hid (Below w.heap.size w w3 ∧ S4 w3 w.heap.size (.int .i64 bu) (.int .i64 gu) (.slice ta tn tc) (.slice ka kn kc) ∧ S5 w3 (w.heap.size + 1) (.int .i64 0) (.int .i64 0) (.int .i64 0) (.slice none 0 0) (.slice none 0 0) ∧ TwoP w3 w1.heap.size (.slice b1 l1 d1) (.slice b2 l2 d2) (hdlsA ta tl) (hdlsA ka kl) ∧ (w3.cell? ⟨w2.heap.size, 0, none⟩ = some (.slice b1 l1 d1) ∧ w3.cell? ⟨w2.heap.size, 1, none⟩ = some (.slice b2 l2 d2)) ∧ w.heap.size + 2 ≤ w3.heap.size) := by
      obtain ⟨k1, k2, k3, k4, ⟨k5, k6⟩, k7, k8⟩ := K2.out
      exact ⟨k1.trans (hb3.mono k1.size), k2.keep hb3, k3.keep hb3, k4.below hb3, ⟨by rw [hb3.cell (p := ⟨w2.heap.size, 0, none⟩) k7]; exact k5, by rw [hb3.cell (p := ⟨w2.heap.size, 1, none⟩) k7]; exact k6⟩, by have := hb3.size; omega⟩
    clear K2 hb3 HF1 HV2 y0 y1
    have en : IntKind.i64.wrap (-xp) = -xp := by unfold IntKind.wrap; simp [IntKind.signed, IntKind.bits]; omega
    have es : IntKind.i64.wrap (20 - xp) = 20 - xp := by unfold IntKind.wrap; simp [IntKind.signed, IntKind.bits]; omega
    by_cases c2 : 0 ≤ xp + by' ∧ xp + by' ≤ 20
    · have g1 : decide (by' < -xp) = false := by simp; omega
      have g2 : decide (20 - xp < by') = false := by simp; omega
      have ew : IntKind.i64.wrap (xp + by') = xp + by' := by unfold IntKind.wrap; simp [IntKind.signed, IntKind.bits]; omega
      have HAe : Hid (A = ⟨0, bu, gu, turnE (isKey key) (pinBy by') (tl.map Prod.fst), turnE (isKey key) (pinBy by') (kl.map Prod.fst)⟩) := by have := HA2.out; rw [if_neg (by simpa using c2)] at this; exact this
      clear c2 HA2
      have e0 := K3.out.2.1.c0
      have e1 := K3.out.2.1.c1
      have e2 := K3.out.2.1.c2
      have e3 := K3.out.2.1.c3
      obtain ⟨y0, y1⟩ := K3.out.2.2.2.2.1
      go_wp2_with fail
      refine (HSL.out _ _ _ _ K3.out.1 K3.out.2.2.2.1).mono ?_
      rintro r0 w4 ⟨⟨a1, k1, n1, a2, k2, n2, m1, m2, rfl, q1, q2, o⟩, hb4⟩
      obtain ⟨V4, hV4⟩ : ∃ V, V = w4.alloc (.cells #[.int .i64 bu, .int .i64 gu, .slice a1 n1 k1, .slice a2 n2 k2] 28) := ⟨_, rfl⟩
      have HV4 : Hid (V4 = w4.alloc (.cells #[.int .i64 bu, .int .i64 gu, .slice a1 n1 k1, .slice a2 n2 k2] 28)) := hV4
      have aV4 : Below w4.heap.size w4 V4 := by rw [hV4]; exact (Below.refl _ _).alloc (Nat.le_refl _) _
      have bV4 : Below w3.heap.size w3 V4 := hb4.trans (aV4.mono hb4.size)
      have K4 : Hid (Below w.heap.size w V4 ∧ S5 V4 (w.heap.size + 1) (.int .i64 0) (.int .i64 0) (.int .i64 0) (.slice none 0 0) (.slice none 0 0) ∧ S4 V4 w4.heap.size (.int .i64 bu) (.int .i64 gu) (.slice a1 n1 k1) (.slice a2 n2 k2) ∧ StoLV V4 w3.heap.size (.slice a1 n1 k1) (.slice a2 n2 k2) m1 m2 ∧ (w4.heap.size ∉ fp (.slice a1 n1 k1) m1 ∧ w4.heap.size ∉ fp (.slice a2 n2 k2) m2) ∧ w.heap.size + 2 ≤ w3.heap.size ∧ w3.heap.size ≤ V4.heap.size) := ⟨K3.out.1.trans (bV4.mono K3.out.1.size), K3.out.2.2.1.keep bV4, by rw [hV4]; exact S4.new w4 _ _ _ _ _, o.below aV4, ⟨fun h => by have := o.t.lt h; omega, fun h => by have := o.k.lt h; omega⟩, K3.out.2.2.2.2.2, bV4.size⟩
      have HQ : Hid (m1.map Prod.fst = tl.map Prod.fst ∧ m2.map Prod.fst = kl.map Prod.fst) := ⟨q1, q2⟩
      have CS2 := HS2.out V4 _ a1 k1 n1 a2 k2 n2 m1 m2 q1 q2 K4.out.2.2.2.1
      clear hV4 aV4 bV4 hb4 o q1 q2 K3 HSL HS2 e0 e1 e2 e3 y0 y1 yp g1 g2 en es
      go_wp2_with fail
      rw [← HV4.out]
      refine CS2.mono ?_
      rintro r0 w5 ⟨⟨f1, f2, rfl, CF⟩, hb5⟩
      have K5 : Hid (Below w.heap.size w w5 ∧ S5 w5 (w.heap.size + 1) (.int .i64 0) (.int .i64 0) (.int .i64 0) (.slice none 0 0) (.slice none 0 0) ∧ S4 w5 w4.heap.size (.int .i64 bu) (.int .i64 gu) (.slice a1 n1 k1) (.slice a2 n2 k2) ∧ (w4.heap.size ∉ fp (.slice a1 n1 k1) m1 ∧ w4.heap.size ∉ fp (.slice a2 n2 k2) m2) ∧ w.heap.size + 2 ≤ w3.heap.size ∧ w3.heap.size ≤ w5.heap.size) := ⟨K4.out.1.trans (hb5.mono K4.out.1.size), K4.out.2.1.keep hb5, K4.out.2.2.1.keep hb5, K4.out.2.2.2.2.1, K4.out.2.2.2.2.2.1, by have := K4.out.2.2.2.2.2.2; have := hb5.size; omega⟩
      clear K4 hb5 CS2 HV4
      go_wp2_with fail
      refine CF.mono ?_
      rintro r0 w6 ⟨⟨qb, qo, rfl, yq, yf, hqb, hqf, o6⟩, hb6⟩
      have K6 : Hid (Below w.heap.size w (w6.setCell ⟨qb, qo + 12, none⟩ (.int .i64 (xp + by'))) ∧ S5 (w6.setCell ⟨qb, qo + 12, none⟩ (.int .i64 (xp + by'))) (w.heap.size + 1) (.int .i64 0) (.int .i64 0) (.int .i64 0) (.slice none 0 0) (.slice none 0 0) ∧ S4 (w6.setCell ⟨qb, qo + 12, none⟩ (.int .i64 (xp + by'))) w4.heap.size (.int .i64 bu) (.int .i64 gu) (.slice a1 n1 k1) (.slice a2 n2 k2) ∧ StoLV (w6.setCell ⟨qb, qo + 12, none⟩ (.int .i64 (xp + by'))) w3.heap.size (.slice a1 n1 k1) (.slice a2 n2 k2) (turnM (isKey key) (pinBy by') m1) (turnM (isKey key) (pinBy by') m2) ∧ w.heap.size + 2 ≤ w3.heap.size) := by
        obtain ⟨k1, k2, k3, k4, k5, k6⟩ := K5.out
        refine ⟨(k1.trans (hb6.mono k1.size)).setCell (by simp only; omega) _, (k2.keep hb6).off (by omega), (k3.keep hb6).off (fun e => ?_), o6, k5⟩
        subst e
        rcases hqf with h | h
        · exact k4.1 h
        · exact k4.2 h
      have hs5 := K6.out.2.1
      have s3 := K6.out.2.2.1
      have z0 := hs5.c0
      have z1 := hs5.c1
      have z2 := hs5.c2
      have z3 := hs5.c3
      have z4 := hs5.c4
      have zf0 := hs5.fr 0
      have zf1 := hs5.fr 1
      have zf2 := hs5.fr 2
      have zf3 := hs5.fr 3
      have zf4 := hs5.fr 4
      have y0 := s3.c0
      have y1 := s3.c1
      have y2 := s3.c2
      have y3 := s3.c3
      clear hs5 s3 hqb hqf o6 hb6 K5 CF
      go_wp2_with fail
      refine bodyPost_ret (v := .agg #[.int .i64 0, .int .i64 bu, .int .i64 gu, .slice a1 n1 k1, .slice a2 n2 k2]) (by simp [results, Tryz.results40, go_sem, z0, z1, z2, z3, z4]) rfl ?_
      have hlt : w.heap.size + 1 < w3.heap.size := by have := K6.out.2.2.2.2; omega
      exact ⟨(StoAns.got (((((K6.out.2.2.2.1.off1 _ hlt).off1 _ hlt).off1 _ hlt).off1 _ hlt).off1 _ hlt) (Nat.le_trans (Nat.le_succ _) (Nat.le_of_lt hlt)) (by rw [turnM_fst, HQ.out.1]) (by rw [turnM_fst, HQ.out.2])).of HAe.out, ((((K6.out.1.setCell (by simp) _).setCell (by simp) _).setCell (by simp) _).setCell (by simp) _).setCell (by simp) _⟩
    · have HAe : Hid (A = badA 3) := by have := HA2.out; rw [if_pos c2] at this; exact this
      have HB : Hid (Below w.heap.size w w3) := K3.out.1
      have hs5 := K3.out.2.2.1
      have z0 := hs5.c0
      have z1 := hs5.c1
      have z2 := hs5.c2
      have z3 := hs5.c3
      have z4 := hs5.c4
      have zf0 := hs5.fr 0
      have zf1 := hs5.fr 1
      have zf2 := hs5.fr 2
      have zf3 := hs5.fr 3
      have zf4 := hs5.fr 4
      clear HA2 K3 hs5 HSL HS2
      by_cases c3 : by' < -xp
      · have g1 : decide (by' < -xp) = true := by simp; omega
        clear c2
        go_wp2_with fail
        refine bodyPost_ret (v := .agg #[.int .i64 3, .int .i64 0, .int .i64 0, .slice none 0 0, .slice none 0 0]) (by simp [results, Tryz.results40, go_sem, z0, z1, z2, z3, z4]) rfl ?_
        exact ⟨(StoAns.bad _ _ _).of HAe.out, ((((HB.out.setCell (by simp) _).setCell (by simp) _).setCell (by simp) _).setCell (by simp) _).setCell (by simp) _⟩
      · have g1 : decide (by' < -xp) = false := by simp; omega
        have g2 : decide (20 - xp < by') = true := by simp; omega
        clear c2
        go_wp2_with fail
        refine bodyPost_ret (v := .agg #[.int .i64 3, .int .i64 0, .int .i64 0, .slice none 0 0, .slice none 0 0]) (by simp [results, Tryz.results40, go_sem, z0, z1, z2, z3, z4]) rfl ?_
        exact ⟨(StoAns.bad _ _ _).of HAe.out, ((((HB.out.setCell (by simp) _).setCell (by simp) _).setCell (by simp) _).setCell (by simp) _).setCell (by simp) _⟩
  · have HAe : Hid (A = badA c) := by have := HA.out; rw [if_pos hc] at this; exact this.symm
    clear HA HP HSO HX2 HTH HTS htn hkn HL1
    go_enter Tryz.func40, Tryz.ntmps40
    go_wp2_with fail
    rw [← HW.out]
    refine (HKF.out _ K0.out.1).mono ?_
    rintro r0 w1 ⟨rfl, hb1⟩
    have HB : Hid (Below w.heap.size w w1) := K0.out.1.trans (hb1.mono K0.out.1.size)
    have hs5 := K0.out.2.2.1.keep hb1
    have z0 := hs5.c0
    have z1 := hs5.c1
    have z2 := hs5.c2
    have z3 := hs5.c3
    have z4 := hs5.c4
    have zf0 := hs5.fr 0
    have zf1 := hs5.fr 1
    have zf2 := hs5.fr 2
    have zf3 := hs5.fr 3
    have zf4 := hs5.fr 4
    clear K0 HW hb1 HKF e0 e1 e2 e3 hs5
    go_wp2_with fail
    refine bodyPost_ret (v := .agg #[.int .i64 c, .int .i64 0, .int .i64 0, .slice none 0 0, .slice none 0 0]) (by simp [results, Tryz.results40, go_sem, z0, z1, z2, z3, z4]) rfl ?_
    exact ⟨(StoAns.bad _ _ _).of HAe.out, ((((HB.out.setCell (by simp) _).setCell (by simp) _).setCell (by simp) _).setCell (by simp) _).setCell (by simp) _⟩
end Go.Proofs.YtdooopkpnanekaaGreatDoor
/-
  DropEntry, by the model and by the program.
-/
namespace Go.Proofs.YtdooopkpnanekaaGreatDoor
open Go.ChangeShapes Go.WideShapes Go.ChangeAt Go.RowKit Go.Sort
open Classical in
noncomputable def dropA (bu gu : Int) (tl kl : List Ent) (key : ByteArray) : SAns :=
  if (peekR bu gu tl kl key).1 ≠ 0 then badA (peekR bu gu tl kl key).1 else
  ⟨0, bu, gu, tl.filter fun x => !isKey key x, kl.filter fun x => !isKey key x⟩
theorem no_key {key : ByteArray} {P Q : List Ent} {y : Ent} (hn : NdK (P ++ y :: Q)) (hy : isKey key y = true) : ∀ z ∈ P ++ Q, isKey key z = false := by
  obtain ⟨_, h2, h3⟩ := hn.app
  obtain ⟨_, _, h4⟩ := NdK.app (L := [y]) (M := Q) h2
  intro z hz
  cases hk : isKey key z with
  | false => rfl
  | true =>
    have e := isKey_eq hy hk
    rcases List.mem_append.1 hz with hz | hz
    · exact absurd e.symm (h3 z hz y (by simp))
    · exact absurd e (h4 y (by simp) z hz)
theorem keep_all {key : ByteArray} {L : List Ent} (h : ∀ z ∈ L, isKey key z = false) : L.filter (fun x => !isKey key x) = L := List.filter_eq_self.2 fun a ha => by simp [h a ha]
/-- Two shelves out of which the one of a key was taken. -/
theorem last2_drop {X w' : World} {lo B : Nat} {key : ByteArray} {v1 v2 : Value} {l1 l2 : List Hdl} {e : Ending} (h : Last2 X lo B (fun h => isKey key h.x) v1 v2 l1 l2 e w') (hn : NdK ((l1 ++ l2).map Hdl.x)) (hlo : lo ≤ X.heap.size) :
    ∃ u1 u2 m1 m2, H2 w' lo B u1 u2 m1 m2 ∧ m1.map Hdl.x = (l1.map Hdl.x).filter (fun x => !isKey key x) ∧ m2.map Hdl.x = (l2.map Hdl.x).filter (fun x => !isKey key x) ∧ (∀ h ∈ m1 ++ m2, h ∈ l1 ++ l2) ∧ m1.length + m2.length ≤ l1.length + l2.length ∧ Below lo X w' := by
  have hall : ∀ (L : List Hdl), (∀ h ∈ L, isKey key h.x = false) → L.map Hdl.x = (L.map Hdl.x).filter (fun x => !isKey key x) := fun L hL => (keep_all (fun z hz => by
    obtain ⟨h, hh, rfl⟩ := List.mem_map.1 hz
    exact hL h hh)).symm
  rcases h with ⟨h1, _, h3, h4⟩ | ⟨A, q, R, u, rfl, h2, h3, _, h5, h6⟩ | ⟨A, q, R, u, rfl, h2, h3, h4, _, h5, h6⟩
  · exact ⟨v1, v2, l1, l2, h4, hall l1 (fun h hh => h1 h (List.mem_append_left _ hh)), hall l2 (fun h hh => h1 h (List.mem_append_right _ hh)), fun h hh => hh, Nat.le_refl _, h3.mono hlo⟩
  · have nk := no_key (key := key) (P := A.map Hdl.x) (y := q.x) (Q := R.map Hdl.x ++ l2.map Hdl.x) (by simpa using hn) h2
    refine ⟨u, v2, A ++ R, l2, h5, ?_, hall l2 (fun h hh => nk _ (by simp; exact .inr (.inr ⟨h, hh, rfl⟩))), fun h hh => ?_, (by simp; try omega), h6⟩
    · rw [List.map_append, List.map_append, List.map_cons, List.filter_append, List.filter_cons, if_neg (by simp [h2]), keep_all (fun z hz => nk z (List.mem_append_left _ hz)), keep_all (fun z hz => nk z (List.mem_append_right _ (List.mem_append_left _ hz)))]
    · simp only [List.mem_append, List.mem_cons] at hh ⊢
      rcases hh with (hh | hh) | hh
      · exact .inl (.inl hh)
      · exact .inl (.inr (.inr hh))
      · exact .inr hh
  · have nk := no_key (key := key) (P := l1.map Hdl.x ++ A.map Hdl.x) (y := q.x) (Q := R.map Hdl.x) (by simpa using hn) h2
    refine ⟨v1, u, l1, A ++ R, h5, hall l1 (fun h hh => h3 h hh), ?_, fun h hh => ?_, (by simp; try omega), h6⟩
    · rw [List.map_append, List.map_append, List.map_cons, List.filter_append, List.filter_cons, if_neg (by simp [h2]), keep_all (fun z hz => nk z (List.mem_append_left _ (List.mem_append_right _ hz))), keep_all (fun z hz => nk z (List.mem_append_right _ hz))]
    · simp only [List.mem_append, List.mem_cons] at hh ⊢
      rcases hh with hh | hh | hh
      · exact .inl hh
      · exact .inr (.inl hh)
      · exact .inr (.inr (.inr hh))
set_option maxRecDepth 100000 in
set_option maxHeartbeats 16000000 in
theorem implDropE_any (w : World) (bu gu : Int) (ta ka : Option Addr) (tc kc : Nat) (tl kl : List (Ent × EntR)) (key : ByteArray) (hset : SetIs w) (hl : tl.length ≤ 1048576) (hk : kl.length ≤ 1048576) (hto : ∀ q ∈ tl ++ kl, EntOk q.1) (hts : ∀ q ∈ tl ++ kl, ∀ t ∈ q.1.ts, t.size ≤ 1048576) (ht : EntsIn w ta tl) (hq : EntsIn w ka kl) :
    Calls Tryz.prog 37 #[.agg #[.int .i64 bu, .int .i64 gu, .slice ta tl.length tc, .slice ka kl.length kc], .string key] w fun e w' => StoAns (dropA bu gu (tl.map Prod.fst) (kl.map Prod.fst) key) w.heap.size e w' ∧ Below w.heap.size w w' := by
  have HKF : Hid (∀ X, Below w.heap.size w X → Calls Tryz.prog 55 #[.agg #[.int .i64 bu, .int .i64 gu, .slice ta tl.length tc, .slice ka kl.length kc], .string key] X fun r w' => r = .returned (.int .i64 (peekR bu gu (tl.map Prod.fst) (kl.map Prod.fst) key).1) ∧ Below X.heap.size X w') := fun X hb => by
    rw [← keyC_peek]; exact keyFault_any X bu gu ta ka tc kc tl kl key (hset.below hb) hl hk hto (ht.keep hb) (hq.keep hb)
  have HSO : Hid (∀ X, Below w.heap.size w X → Calls Tryz.prog 56 #[.agg #[.int .i64 bu, .int .i64 gu, .slice ta tl.length tc, .slice ka kl.length kc]] X fun e w' => (∃ v1 v2, e = .returned (.agg #[v1, v2]) ∧ TwoP w' X.heap.size v1 v2 (hdlsA ta tl) (hdlsA ka kl)) ∧ Below X.heap.size X w') := fun X hb => shelvesOf_any X bu gu ta ka tc kc tl kl hl hk (ht.keep hb) (hq.keep hb)
  have HTH : Hid (∀ X, Below w.heap.size w X → ∀ h ∈ hdl2 ta ka tl kl, HThere X h) := fun X hb => hdl2_there (ht.keep hb) (hq.keep hb)
  have HTS : Hid (∀ h ∈ hdl2 ta ka tl kl, ∀ t ∈ h.x.ts, t.size ≤ 1048576) := fun h hh => by
    have hm : h.x ∈ (tl ++ kl).map Prod.fst := by rw [List.map_append, ← hdl2_x ta ka]; exact List.mem_map_of_mem hh
    obtain ⟨q, hq, e⟩ := List.mem_map.1 hm
    rw [← e]; exact hts q hq
  have HX2 : Hid ((hdl2 ta ka tl kl).map Hdl.x = tl.map Prod.fst ++ kl.map Prod.fst) := hdl2_x _ _ _ _
  obtain ⟨W, hW⟩ : ∃ W, W = (w.alloc (.cells #[.int .i64 bu, .int .i64 gu, .slice ta tl.length tc, .slice ka kl.length kc] 28)).alloc (.cells #[.int .i64 0, .int .i64 0, .int .i64 0, .slice none 0 0, .slice none 0 0] 30) := ⟨_, rfl⟩
  have HW : Hid (W = (w.alloc (.cells #[.int .i64 bu, .int .i64 gu, .slice ta tl.length tc, .slice ka kl.length kc] 28)).alloc (.cells #[.int .i64 0, .int .i64 0, .int .i64 0, .slice none 0 0, .slice none 0 0] 30)) := hW
  have K0 : Hid (Below w.heap.size w W ∧ S4 W w.heap.size (.int .i64 bu) (.int .i64 gu) (.slice ta tl.length tc) (.slice ka kl.length kc) ∧ S5 W (w.heap.size + 1) (.int .i64 0) (.int .i64 0) (.int .i64 0) (.slice none 0 0) (.slice none 0 0) ∧ w.heap.size + 2 ≤ W.heap.size) := by
    rw [hW]
    refine ⟨((Below.refl _ _).alloc (Nat.le_refl _) _).alloc (by simp) _, (S4.new w _ _ _ _ _).keep ((Below.refl _ _).alloc (Nat.le_refl _) _), ?_, by simp⟩
    have := S5.new (w.alloc (.cells #[.int .i64 bu, .int .i64 gu, .slice ta tl.length tc, .slice ka kl.length kc] 28)) (.int .i64 0) (.int .i64 0) (.int .i64 0) (.slice none 0 0) (.slice none 0 0) 30
    simpa using this
  obtain ⟨A, hA⟩ : ∃ A, dropA bu gu (tl.map Prod.fst) (kl.map Prod.fst) key = A := ⟨_, rfl⟩
  rw [hA]
  unfold dropA at hA
  have HA : Hid (_ = A) := hA
  have HL1 : Hid ((hdlsA ta tl).map Hdl.x = tl.map Prod.fst ∧ (hdlsA ka kl).map Hdl.x = kl.map Prod.fst ∧ (hdlsA ta tl).length = tl.length ∧ (hdlsA ka kl).length = kl.length) := ⟨hdlsA_x _ _, hdlsA_x _ _, hdlsA_len _ _, hdlsA_len _ _⟩
  clear hW hl hk hto hts ht hq hA hset
  obtain ⟨P, hP⟩ : ∃ P, peekR bu gu (tl.map Prod.fst) (kl.map Prod.fst) key = P := ⟨_, rfl⟩
  have HP : Hid (peekR bu gu (tl.map Prod.fst) (kl.map Prod.fst) key = P) := hP
  rw [hP] at HKF HA
  clear hP
  obtain ⟨c, x⟩ := P
  simp only at HKF HA
  have e0 := K0.out.2.1.c0
  have e1 := K0.out.2.1.c1
  have e2 := K0.out.2.1.c2
  have e3 := K0.out.2.1.c3
  rw [HW.out] at e0 e1 e2 e3
  obtain ⟨tn, htn⟩ : ∃ n, Hid (tl.length = n) := ⟨_, rfl⟩
  obtain ⟨kn, hkn⟩ : ∃ n, Hid (kl.length = n) := ⟨_, rfl⟩
  rw [htn.out, hkn.out] at HKF HSO HW K0 HL1 ⊢
  rw [htn.out] at e0 e1 e2 e3
  rw [hkn.out] at e0 e1 e2 e3
  by_cases hc : c = 0
  · subst hc
    obtain ⟨hst, hfi⟩ := peekR_zero (bu := bu) (gu := gu) (tl := tl.map Prod.fst) (kl := kl.map Prod.fst) (key := key) (by rw [HP.out])
    rw [HP.out] at hfi
    simp only at hfi
    have hln := (storeC_zero hst).2.1
    rw [List.length_map, List.length_map, htn.out, hkn.out] at hln
    have HZC : Hid (∀ h ∈ hdl2 ta ka tl kl, entC h.x = 0) := fun h hh => storeC_ent hst h.x (by rw [← HX2.out]; exact List.mem_map_of_mem hh)
    have HTK : Hid (∀ X B lo v1 v2, Below w.heap.size w X → H2 X lo B v1 v2 (hdlsA ta tl) (hdlsA ka kl) → lo ≤ X.heap.size → Calls Tryz.prog 58 #[.pointer (some ⟨B, 0, none⟩), .string key] X fun e w' => ∃ x u1 u2 m1 m2, e = .returned (.pointer x) ∧ H2 w' lo B u1 u2 m1 m2 ∧ m1.map Hdl.x = (tl.map Prod.fst).filter (fun x => !isKey key x) ∧ m2.map Hdl.x = (kl.map Prod.fst).filter (fun x => !isKey key x) ∧ (∀ h ∈ m1 ++ m2, h ∈ hdl2 ta ka tl kl) ∧ m1.length + m2.length ≤ 40 ∧ Below lo X w') := fun X B lo v1 v2 hb h hlo => by
      have q1 := HL1.out.2.2.1
      have q2 := HL1.out.2.2.2
      refine (takeKey_any X lo B key v1 v2 _ _ h (by omega) (by omega) hlo (fun h hh => HTH.out X hb h hh) (fun h hh => (entC_sizes (HZC.out h hh)).2)).mono ?_
      rintro e w' ⟨Y, hY, hr⟩
      have hx : ∃ x, e = .returned (.pointer x) := by
        rcases hr with ⟨_, r2, _⟩ | ⟨_, _, _, _, _, _, _, r2, _⟩ | ⟨_, _, _, _, _, _, _, _, r2, _⟩ <;> exact ⟨_, r2⟩
      obtain ⟨u1, u2, m1, m2, g1, g2, g3, g4, g5, g6⟩ := last2_drop hr (by have := storeC_nd hst; rw [← HX2.out] at this; exact this) (Nat.le_trans hlo hY.size)
      obtain ⟨x, rfl⟩ := hx
      exact ⟨x, u1, u2, m1, m2, rfl, g1, by rw [g2, HL1.out.1], by rw [g3, HL1.out.2.1], g4, by omega, (hY.mono hlo).trans g6⟩
    have HSL : Hid (∀ X v1 v2 base m1 m2, Below w.heap.size w X → TwoP X base v1 v2 m1 m2 → m1.map Hdl.x = (tl.map Prod.fst).filter (fun x => !isKey key x) → m2.map Hdl.x = (kl.map Prod.fst).filter (fun x => !isKey key x) → (∀ h ∈ m1 ++ m2, h ∈ hdl2 ta ka tl kl) → m1.length + m2.length ≤ 40 → Calls Tryz.prog 60 #[.agg #[v1, v2], .agg #[.int .i64 bu, .int .i64 gu, .slice ta tn tc, .slice ka kn kc]] X fun e w' => (∃ a1 k1 n1 a2 k2 n2 m1 m2, e = .returned (.agg #[.int .i64 bu, .int .i64 gu, .slice a1 n1 k1, .slice a2 n2 k2]) ∧ m1.map Prod.fst = (tl.map Prod.fst).filter (fun x => !isKey key x) ∧ m2.map Prod.fst = (kl.map Prod.fst).filter (fun x => !isKey key x) ∧ StoLV w' X.heap.size (.slice a1 n1 k1) (.slice a2 n2 k2) m1 m2) ∧ Below X.heap.size X w') := fun X v1 v2 base m1 m2 hb h g1 g2 g3 g4 => by
      refine (storeLike_any X v1 v2 base _ _ bu gu ta ka tc kc tn kn h (by omega) (fun x hx => HTH.out X hb x (g3 x hx)) (fun x hx => HZC.out x (g3 x hx)) (fun x hx => HTS.out x (g3 x hx))).mono ?_
      rintro e w' ⟨⟨a1, k1, n1, a2, k2, n2, m1, m2, rfl, q1, q2, o⟩, hb'⟩
      exact ⟨⟨a1, k1, n1, a2, k2, n2, m1, m2, rfl, by rw [q1, g1], by rw [q2, g2], o.lv⟩, hb'⟩
    have HAe : Hid (A = ⟨0, bu, gu, (tl.map Prod.fst).filter (fun x => !isKey key x), (kl.map Prod.fst).filter (fun x => !isKey key x)⟩) := by have := HA.out; simp only [ne_eq, not_true_eq_false, if_false] at this; exact this.symm
    clear HA HP HX2 HTH HTS HZC hst hfi hln htn hkn HL1
    go_enter Tryz.func37, Tryz.ntmps37
    go_wp2_with fail
    rw [← HW.out]
    refine (HKF.out _ K0.out.1).mono ?_
    rintro r0 w1 ⟨rfl, hb1⟩
    have K1 : Hid (Below w.heap.size w w1 ∧ S4 w1 w.heap.size (.int .i64 bu) (.int .i64 gu) (.slice ta tn tc) (.slice ka kn kc) ∧ S5 w1 (w.heap.size + 1) (.int .i64 0) (.int .i64 0) (.int .i64 0) (.slice none 0 0) (.slice none 0 0) ∧ w.heap.size + 2 ≤ w1.heap.size) := ⟨K0.out.1.trans (hb1.mono K0.out.1.size), K0.out.2.1.keep hb1, K0.out.2.2.1.keep hb1, by have := K0.out.2.2.2; have := hb1.size; omega⟩
    clear K0 HW hb1 HKF e0 e1 e2 e3
    have e0 := K1.out.2.1.c0
    have e1 := K1.out.2.1.c1
    have e2 := K1.out.2.1.c2
    have e3 := K1.out.2.1.c3
    go_wp2_with fail
    refine (HSO.out _ K1.out.1).mono ?_
    rintro r0 w2 ⟨⟨v1, v2, rfl, tp⟩, hb2⟩
    obtain ⟨b1, d1, rfl, _⟩ := tp.a.form
    obtain ⟨b2, d2, rfl, _⟩ := tp.b.form
    generalize (hdlsA ta tl).length = l1 at *
    generalize (hdlsA ka kl).length = l2 at *
    obtain ⟨V2, hV2⟩ : ∃ V, V = w2.alloc (.cells #[.slice b1 l1 d1, .slice b2 l2 d2] 98) := ⟨_, rfl⟩
    have HV2 : Hid (V2 = w2.alloc (.cells #[.slice b1 l1 d1, .slice b2 l2 d2] 98)) := hV2
    have aV2 : Below w2.heap.size w2 V2 := by rw [hV2]; exact (Below.refl _ _).alloc (Nat.le_refl _) _
    have bV2 : Below w1.heap.size w1 V2 := hb2.trans (aV2.mono hb2.size)
    have hh2 : H2 V2 w1.heap.size w2.heap.size (.slice b1 l1 d1) (.slice b2 l2 d2) (hdlsA ta tl) (hdlsA ka kl) := by rw [hV2]; exact H2.new tp hb2.size _
    have HKW : Hid (∀ X, Below w1.heap.size w1 X → Below w.heap.size w X ∧ S4 X w.heap.size (.int .i64 bu) (.int .i64 gu) (.slice ta tn tc) (.slice ka kn kc) ∧ S5 X (w.heap.size + 1) (.int .i64 0) (.int .i64 0) (.int .i64 0) (.slice none 0 0) (.slice none 0 0) ∧ w.heap.size + 2 ≤ X.heap.size) := fun X hX => ⟨K1.out.1.trans (hX.mono K1.out.1.size), K1.out.2.1.keep hX, K1.out.2.2.1.keep hX, by have := K1.out.2.2.2; have := hX.size; omega⟩
    have CT := HTK.out V2 w2.heap.size w1.heap.size _ _ (HKW.out _ bV2).1 hh2 bV2.size
    have K2 : Hid (Below w1.heap.size w1 V2) := bV2
    clear hV2 aV2 bV2 hb2 tp K1 HSO e0 e1 e2 e3 hh2 HTK
    go_wp2_with fail
    rw [← HV2.out]
    refine CT.mono ?_
    rintro r0 w3 ⟨xp, u1, u2, m1, m2, rfl, hh3, g1, g2, g3, g4, hb3⟩
    have b3 : Below w1.heap.size w1 w3 := K2.out.trans hb3
    obtain ⟨bw3, s43, s53, z3⟩ := HKW.out _ b3
    have CSL := HSL.out w3 u1 u2 _ m1 m2 bw3 hh3.tp g1 g2 g3 g4
    have y0 := hh3.c0
    have y1 := hh3.c1
    obtain ⟨f1, c1, rfl, _⟩ := hh3.tp.a.form
    obtain ⟨f2, c2, rfl, _⟩ := hh3.tp.b.form
    generalize m1.length = n1 at *
    generalize m2.length = n2 at *
    have e0 := s43.c0
    have e1 := s43.c1
    have e2 := s43.c2
    have e3 := s43.c3
    have K3 : Hid (Below w.heap.size w w3 ∧ S5 w3 (w.heap.size + 1) (.int .i64 0) (.int .i64 0) (.int .i64 0) (.slice none 0 0) (.slice none 0 0) ∧ w.heap.size + 2 ≤ w3.heap.size) := ⟨bw3, s53, z3⟩
    clear CT K2 HKW HV2 hh3 g1 g2 g3 g4 hb3 b3 bw3 s43 s53 z3 HSL
    go_wp2_with fail
    refine CSL.mono ?_
    rintro r0 w4 ⟨⟨a1, k1, p1, a2, k2, p2, j1, j2, rfl, q1, q2, o⟩, hb4⟩
    have K4 : Hid (Below w.heap.size w w4 ∧ StoLV w4 w3.heap.size (.slice a1 p1 k1) (.slice a2 p2 k2) j1 j2 ∧ w.heap.size + 2 ≤ w3.heap.size) := ⟨K3.out.1.trans (hb4.mono K3.out.1.size), o, K3.out.2.2⟩
    have hs5 := K3.out.2.1.keep hb4
    have z0 := hs5.c0
    have z1 := hs5.c1
    have z2 := hs5.c2
    have z3 := hs5.c3
    have z4 := hs5.c4
    have zf0 := hs5.fr 0
    have zf1 := hs5.fr 1
    have zf2 := hs5.fr 2
    have zf3 := hs5.fr 3
    have zf4 := hs5.fr 4
    have HQ : Hid (j1.map Prod.fst = (tl.map Prod.fst).filter (fun x => !isKey key x) ∧ j2.map Prod.fst = (kl.map Prod.fst).filter (fun x => !isKey key x)) := ⟨q1, q2⟩
    clear hs5 K3 o hb4 CSL q1 q2 e0 e1 e2 e3 y0 y1
    go_wp2_with fail
    refine bodyPost_ret (v := .agg #[.int .i64 0, .int .i64 bu, .int .i64 gu, .slice a1 p1 k1, .slice a2 p2 k2]) (by simp [results, Tryz.results37, go_sem, z0, z1, z2, z3, z4]) rfl ?_
    have hlt : w.heap.size + 1 < w3.heap.size := by have := K4.out.2.2; omega
    exact ⟨(StoAns.got (((((K4.out.2.1.off1 _ hlt).off1 _ hlt).off1 _ hlt).off1 _ hlt).off1 _ hlt) (Nat.le_trans (Nat.le_succ _) (Nat.le_of_lt hlt)) HQ.out.1 HQ.out.2).of HAe.out, ((((K4.out.1.setCell (by simp) _).setCell (by simp) _).setCell (by simp) _).setCell (by simp) _).setCell (by simp) _⟩
  · have HAe : Hid (A = badA c) := by have := HA.out; rw [if_pos hc] at this; exact this.symm
    clear HA HP HSO HX2 HTH HTS htn hkn HL1
    go_enter Tryz.func37, Tryz.ntmps37
    go_wp2_with fail
    rw [← HW.out]
    refine (HKF.out _ K0.out.1).mono ?_
    rintro r0 w1 ⟨rfl, hb1⟩
    have HB : Hid (Below w.heap.size w w1) := K0.out.1.trans (hb1.mono K0.out.1.size)
    have hs5 := K0.out.2.2.1.keep hb1
    have z0 := hs5.c0
    have z1 := hs5.c1
    have z2 := hs5.c2
    have z3 := hs5.c3
    have z4 := hs5.c4
    have zf0 := hs5.fr 0
    have zf1 := hs5.fr 1
    have zf2 := hs5.fr 2
    have zf3 := hs5.fr 3
    have zf4 := hs5.fr 4
    clear K0 HW hb1 HKF e0 e1 e2 e3 hs5
    go_wp2_with fail
    refine bodyPost_ret (v := .agg #[.int .i64 c, .int .i64 0, .int .i64 0, .slice none 0 0, .slice none 0 0]) (by simp [results, Tryz.results37, go_sem, z0, z1, z2, z3, z4]) rfl ?_
    exact ⟨(StoAns.bad _ _ _).of HAe.out, ((((HB.out.setCell (by simp) _).setCell (by simp) _).setCell (by simp) _).setCell (by simp) _).setCell (by simp) _⟩
end Go.Proofs.YtdooopkpnanekaaGreatDoor
/-
  TouchEntry, by the program.
-/
namespace Go.Proofs.YtdooopkpnanekaaGreatDoor
open Go.ChangeShapes Go.WideShapes Go.ChangeAt Go.RowKit Go.Sort
open Classical in
noncomputable def touchA (bu gu : Int) (tl kl : List Ent) (key : ByteArray) : SAns :=
  if (peekR bu gu tl kl key).1 ≠ 0 then badA (peekR bu gu tl kl key).1 else
  ⟨0, bu, gu, (lowR gu (tl.filter fun x => !isKey key x) ((peekR bu gu tl kl key).2 :: kl.filter fun x => !isKey key x).reverse).1, (lowR gu (tl.filter fun x => !isKey key x) ((peekR bu gu tl kl key).2 :: kl.filter fun x => !isKey key x).reverse).2⟩
theorem find_one {L : List Ent} {key : ByteArray} {x q : Ent} (hn : NdK L) (hf : L.find? (isKey key) = some x) (hq : q ∈ L) (hk : isKey key q = true) : q = x := by
  obtain ⟨P, Q, rfl⟩ := List.append_of_mem hq
  have nk := no_key hn hk
  have hm := List.mem_of_find?_eq_some hf
  have h2 := List.find?_some hf
  rcases List.mem_append.1 hm with h | h
  · have := nk x (List.mem_append_left _ h)
    rw [this] at h2; cases h2
  · rcases List.mem_cons.1 h with h | h
    · exact h.symm
    · have := nk x (List.mem_append_right _ h)
      rw [this] at h2; cases h2
set_option maxRecDepth 100000 in
set_option maxHeartbeats 16000000 in
theorem implTouchE_any (w : World) (bu gu : Int) (ta ka : Option Addr) (tc kc : Nat) (tl kl : List (Ent × EntR)) (key : ByteArray) (hset : SetIs w) (hl : tl.length ≤ 1048576) (hk : kl.length ≤ 1048576) (hto : ∀ q ∈ tl ++ kl, EntOk q.1) (hts : ∀ q ∈ tl ++ kl, ∀ t ∈ q.1.ts, t.size ≤ 1048576) (ht : EntsIn w ta tl) (hq : EntsIn w ka kl) :
    Calls Tryz.prog 11 #[.agg #[.int .i64 bu, .int .i64 gu, .slice ta tl.length tc, .slice ka kl.length kc], .string key] w fun e w' => StoAns (touchA bu gu (tl.map Prod.fst) (kl.map Prod.fst) key) w.heap.size e w' ∧ Below w.heap.size w w' := by
  have HKF : Hid (∀ X, Below w.heap.size w X → Calls Tryz.prog 55 #[.agg #[.int .i64 bu, .int .i64 gu, .slice ta tl.length tc, .slice ka kl.length kc], .string key] X fun r w' => r = .returned (.int .i64 (peekR bu gu (tl.map Prod.fst) (kl.map Prod.fst) key).1) ∧ Below X.heap.size X w') := fun X hb => by
    rw [← keyC_peek]; exact keyFault_any X bu gu ta ka tc kc tl kl key (hset.below hb) hl hk hto (ht.keep hb) (hq.keep hb)
  have HSO : Hid (∀ X, Below w.heap.size w X → Calls Tryz.prog 56 #[.agg #[.int .i64 bu, .int .i64 gu, .slice ta tl.length tc, .slice ka kl.length kc]] X fun e w' => (∃ v1 v2, e = .returned (.agg #[v1, v2]) ∧ TwoP w' X.heap.size v1 v2 (hdlsA ta tl) (hdlsA ka kl)) ∧ Below X.heap.size X w') := fun X hb => shelvesOf_any X bu gu ta ka tc kc tl kl hl hk (ht.keep hb) (hq.keep hb)
  have HTH : Hid (∀ X, Below w.heap.size w X → ∀ h ∈ hdl2 ta ka tl kl, HThere X h) := fun X hb => hdl2_there (ht.keep hb) (hq.keep hb)
  have HTS : Hid (∀ h ∈ hdl2 ta ka tl kl, ∀ t ∈ h.x.ts, t.size ≤ 1048576) := fun h hh => by
    have hm : h.x ∈ (tl ++ kl).map Prod.fst := by rw [List.map_append, ← hdl2_x ta ka]; exact List.mem_map_of_mem hh
    obtain ⟨q, hq, e⟩ := List.mem_map.1 hm
    rw [← e]; exact hts q hq
  have HX2 : Hid ((hdl2 ta ka tl kl).map Hdl.x = tl.map Prod.fst ++ kl.map Prod.fst) := hdl2_x _ _ _ _
  obtain ⟨W, hW⟩ : ∃ W, W = (w.alloc (.cells #[.int .i64 bu, .int .i64 gu, .slice ta tl.length tc, .slice ka kl.length kc] 28)).alloc (.cells #[.int .i64 0, .int .i64 0, .int .i64 0, .slice none 0 0, .slice none 0 0] 30) := ⟨_, rfl⟩
  have HW : Hid (W = (w.alloc (.cells #[.int .i64 bu, .int .i64 gu, .slice ta tl.length tc, .slice ka kl.length kc] 28)).alloc (.cells #[.int .i64 0, .int .i64 0, .int .i64 0, .slice none 0 0, .slice none 0 0] 30)) := hW
  have K0 : Hid (Below w.heap.size w W ∧ S4 W w.heap.size (.int .i64 bu) (.int .i64 gu) (.slice ta tl.length tc) (.slice ka kl.length kc) ∧ S5 W (w.heap.size + 1) (.int .i64 0) (.int .i64 0) (.int .i64 0) (.slice none 0 0) (.slice none 0 0) ∧ w.heap.size + 2 ≤ W.heap.size) := by
    rw [hW]
    refine ⟨((Below.refl _ _).alloc (Nat.le_refl _) _).alloc (by simp) _, (S4.new w _ _ _ _ _).keep ((Below.refl _ _).alloc (Nat.le_refl _) _), ?_, by simp⟩
    have := S5.new (w.alloc (.cells #[.int .i64 bu, .int .i64 gu, .slice ta tl.length tc, .slice ka kl.length kc] 28)) (.int .i64 0) (.int .i64 0) (.int .i64 0) (.slice none 0 0) (.slice none 0 0) 30
    simpa using this
  obtain ⟨A, hA⟩ : ∃ A, touchA bu gu (tl.map Prod.fst) (kl.map Prod.fst) key = A := ⟨_, rfl⟩
  rw [hA]
  unfold touchA at hA
  have HA : Hid (_ = A) := hA
  have HL1 : Hid ((hdlsA ta tl).map Hdl.x = tl.map Prod.fst ∧ (hdlsA ka kl).map Hdl.x = kl.map Prod.fst ∧ (hdlsA ta tl).length = tl.length ∧ (hdlsA ka kl).length = kl.length) := ⟨hdlsA_x _ _, hdlsA_x _ _, hdlsA_len _ _, hdlsA_len _ _⟩
  have HST : Hid (∀ X, Below w.heap.size w X → SetIs X) := fun X hX => hset.below hX
  clear hW hl hk hto hts ht hq hA hset
  obtain ⟨P, hP⟩ : ∃ P, peekR bu gu (tl.map Prod.fst) (kl.map Prod.fst) key = P := ⟨_, rfl⟩
  have HP : Hid (peekR bu gu (tl.map Prod.fst) (kl.map Prod.fst) key = P) := hP
  rw [hP] at HKF HA
  clear hP
  obtain ⟨c, x⟩ := P
  simp only at HKF HA
  have e0 := K0.out.2.1.c0
  have e1 := K0.out.2.1.c1
  have e2 := K0.out.2.1.c2
  have e3 := K0.out.2.1.c3
  rw [HW.out] at e0 e1 e2 e3
  obtain ⟨tn, htn⟩ : ∃ n, Hid (tl.length = n) := ⟨_, rfl⟩
  obtain ⟨kn, hkn⟩ : ∃ n, Hid (kl.length = n) := ⟨_, rfl⟩
  rw [htn.out, hkn.out] at HKF HSO HW K0 HL1 ⊢
  rw [htn.out] at e0 e1 e2 e3
  rw [hkn.out] at e0 e1 e2 e3
  by_cases hc : c = 0
  · subst hc
    obtain ⟨hst, hfi⟩ := peekR_zero (bu := bu) (gu := gu) (tl := tl.map Prod.fst) (kl := kl.map Prod.fst) (key := key) (by rw [HP.out])
    rw [HP.out] at hfi
    simp only at hfi
    have hln := (storeC_zero hst).2.1
    rw [List.length_map, List.length_map, htn.out, hkn.out] at hln
    have hgu : 0 ≤ gu := (storeC_zero hst).1.2.2.1
    have HZC : Hid (∀ h ∈ hdl2 ta ka tl kl, entC h.x = 0) := fun h hh => storeC_ent hst h.x (by rw [← HX2.out]; exact List.mem_map_of_mem hh)
    have HTK : Hid (∀ X B lo v1 v2, Below w.heap.size w X → H2 X lo B v1 v2 (hdlsA ta tl) (hdlsA ka kl) → lo ≤ X.heap.size → Calls Tryz.prog 58 #[.pointer (some ⟨B, 0, none⟩), .string key] X fun e w' => ∃ y u1 u2 m1 m2, e = .returned (.pointer (some ⟨y.b, y.o, none⟩)) ∧ y ∈ hdl2 ta ka tl kl ∧ y.x = x ∧ H2 w' lo B u1 u2 m1 m2 ∧ m1.map Hdl.x = (tl.map Prod.fst).filter (fun x => !isKey key x) ∧ m2.map Hdl.x = (kl.map Prod.fst).filter (fun x => !isKey key x) ∧ (∀ h ∈ m1 ++ m2, h ∈ hdl2 ta ka tl kl) ∧ m1.length + m2.length ≤ 40 ∧ Below lo X w') := fun X B lo v1 v2 hb h hlo => by
      have q1 := HL1.out.2.2.1
      have q2 := HL1.out.2.2.2
      refine (takeKey_any X lo B key v1 v2 _ _ h (by omega) (by omega) hlo (fun h hh => HTH.out X hb h hh) (fun h hh => (entC_sizes (HZC.out h hh)).2)).mono ?_
      rintro e w' ⟨Y, hY, hr⟩
      have hnd : NdK (tl.map Prod.fst ++ kl.map Prod.fst) := storeC_nd hst
      have hx : ∃ y, e = .returned (.pointer (some ⟨y.b, y.o, none⟩)) ∧ y ∈ hdl2 ta ka tl kl ∧ y.x = x := by
        rcases hr with ⟨r1, _⟩ | ⟨A, y, R, u, r0, r1, _, r2, _⟩ | ⟨A, y, R, u, r0, r1, _, _, r2, _⟩
        · have hm := List.mem_of_find?_eq_some hfi
          rw [← HX2.out] at hm
          obtain ⟨z, hz, e2⟩ := List.mem_map.1 hm
          have k1 := List.find?_some hfi
          have k2 := r1 z hz
          simp only at k2
          rw [e2, k1] at k2
          exact absurd k2 (by simp)
        · have hm : y ∈ hdl2 ta ka tl kl := List.mem_append_left _ (by rw [r0]; simp)
          exact ⟨y, r2, hm, find_one hnd hfi (by rw [← HX2.out]; exact List.mem_map_of_mem hm) r1⟩
        · have hm : y ∈ hdl2 ta ka tl kl := List.mem_append_right _ (by rw [r0]; simp)
          exact ⟨y, r2, hm, find_one hnd hfi (by rw [← HX2.out]; exact List.mem_map_of_mem hm) r1⟩
      obtain ⟨u1, u2, m1, m2, g1, g2, g3, g4, g5, g6⟩ := last2_drop hr (by have := storeC_nd hst; rw [← HX2.out] at this; exact this) (Nat.le_trans hlo hY.size)
      obtain ⟨y, rfl, hy1, hy2⟩ := hx
      exact ⟨y, u1, u2, m1, m2, rfl, hy1, hy2, g1, by rw [g2, HL1.out.1], by rw [g3, HL1.out.2.1], g4, by omega, (hY.mono hlo).trans g6⟩
    have HPF : Hid (∀ X B lo u1 u2 m1 m2 y, H2 X lo B u1 u2 m1 m2 → lo ≤ X.heap.size → m1.length + m2.length ≤ 40 → Calls Tryz.prog 57 #[.pointer (some ⟨B, 1, none⟩), .pointer (some ⟨y.b, y.o, none⟩)] X fun e w' => e = .returned (.tuple #[]) ∧ ∃ u, H2 w' lo B u1 u m1 (y :: m2) ∧ Below lo X w') := fun X B lo u1 u2 m1 m2 y h hlo hn =>
      (putFirst_any X B 1 lo u2 m2 y h.c1 (h.fr 1) h.tp.b (by omega) hlo h.n2).mono fun e w' hp => ⟨hp.1, h.putK hp hlo⟩
    have HLK : Hid (∀ X B lo u1 u2 m1 m2, Below w.heap.size w X → w.heap.size ≤ lo → H2 X lo B u1 u2 m1 m2 → lo ≤ X.heap.size → m1.length + m2.length ≤ 41 → (∀ h ∈ m1 ++ m2, h ∈ hdl2 ta ka tl kl) → Calls Tryz.prog 59 #[.pointer (some ⟨B, 0, none⟩), .int .i64 gu] X fun e w' => e = .returned (.tuple #[]) ∧ (∃ v1 v2 n1 n2, H2 w' lo B v1 v2 n1 n2 ∧ (n1.map Hdl.x, n2.map Hdl.x) = lowR gu (m1.map Hdl.x) (m2.map Hdl.x).reverse ∧ (∀ h ∈ n1 ++ n2, h ∈ hdl2 ta ka tl kl) ∧ n1.length + n2.length ≤ 41) ∧ Below lo X w') := fun X B lo u1 u2 m1 m2 hb hwl h hlo hn hs => by
      refine (lowerKept_any X lo B u1 u2 m1 m2 gu hgu h hlo hn (fun Y hY z hz => HTH.out Y (hb.trans (hY.mono hwl)) z (hs z hz)) (fun z hz => HZC.out z (hs z hz)) (fun Y hY => HST.out Y (hb.trans (hY.mono hwl)))).mono ?_
      rintro e w' ⟨r1, ⟨v1, v2, n1, n2, r2, r3, r4, r5⟩, r6⟩
      exact ⟨r1, ⟨v1, v2, n1, n2, r2, r3, fun z hz => hs z (r4 z hz), by omega⟩, r6⟩
    have HSL : Hid (∀ X v1 v2 base m1 m2, Below w.heap.size w X → TwoP X base v1 v2 m1 m2 → (∀ h ∈ m1 ++ m2, h ∈ hdl2 ta ka tl kl) → m1.length + m2.length ≤ 41 → Calls Tryz.prog 60 #[.agg #[v1, v2], .agg #[.int .i64 bu, .int .i64 gu, .slice ta tn tc, .slice ka kn kc]] X fun e w' => (∃ a1 k1 n1 a2 k2 n2 j1 j2, e = .returned (.agg #[.int .i64 bu, .int .i64 gu, .slice a1 n1 k1, .slice a2 n2 k2]) ∧ j1.map Prod.fst = m1.map Hdl.x ∧ j2.map Prod.fst = m2.map Hdl.x ∧ StoLV w' X.heap.size (.slice a1 n1 k1) (.slice a2 n2 k2) j1 j2) ∧ Below X.heap.size X w') := fun X v1 v2 base m1 m2 hb h g3 g4 => by
      refine (storeLike_any X v1 v2 base _ _ bu gu ta ka tc kc tn kn h (by omega) (fun x hx => HTH.out X hb x (g3 x hx)) (fun x hx => HZC.out x (g3 x hx)) (fun x hx => HTS.out x (g3 x hx))).mono ?_
      rintro e w' ⟨⟨a1, k1, n1, a2, k2, n2, m1, m2, rfl, q1, q2, o⟩, hb'⟩
      exact ⟨⟨a1, k1, n1, a2, k2, n2, m1, m2, rfl, q1, q2, o.lv⟩, hb'⟩
    have HAe : Hid (A = ⟨0, bu, gu, (lowR gu ((tl.map Prod.fst).filter (fun x => !isKey key x)) (x :: (kl.map Prod.fst).filter (fun x => !isKey key x)).reverse).1, (lowR gu ((tl.map Prod.fst).filter (fun x => !isKey key x)) (x :: (kl.map Prod.fst).filter (fun x => !isKey key x)).reverse).2⟩) := by have := HA.out; simp only [ne_eq, not_true_eq_false, if_false] at this; exact this.symm
    clear HA HP HX2 HTH HTS HZC hst hfi hln htn hkn HL1 HST hgu
    go_enter Tryz.func11, Tryz.ntmps11
    go_wp2_with fail
    rw [← HW.out]
    refine (HKF.out _ K0.out.1).mono ?_
    rintro r0 w1 ⟨rfl, hb1⟩
    have K1 : Hid (Below w.heap.size w w1 ∧ S4 w1 w.heap.size (.int .i64 bu) (.int .i64 gu) (.slice ta tn tc) (.slice ka kn kc) ∧ S5 w1 (w.heap.size + 1) (.int .i64 0) (.int .i64 0) (.int .i64 0) (.slice none 0 0) (.slice none 0 0) ∧ w.heap.size + 2 ≤ w1.heap.size) := ⟨K0.out.1.trans (hb1.mono K0.out.1.size), K0.out.2.1.keep hb1, K0.out.2.2.1.keep hb1, by have := K0.out.2.2.2; have := hb1.size; omega⟩
    clear K0 HW hb1 HKF e0 e1 e2 e3
    have e0 := K1.out.2.1.c0
    have e1 := K1.out.2.1.c1
    have e2 := K1.out.2.1.c2
    have e3 := K1.out.2.1.c3
    go_wp2_with fail
    refine (HSO.out _ K1.out.1).mono ?_
    rintro r0 w2 ⟨⟨v1, v2, rfl, tp⟩, hb2⟩
    obtain ⟨b1, d1, rfl, _⟩ := tp.a.form
    obtain ⟨b2, d2, rfl, _⟩ := tp.b.form
    generalize (hdlsA ta tl).length = l1 at *
    generalize (hdlsA ka kl).length = l2 at *
    obtain ⟨V2, hV2⟩ : ∃ V, V = w2.alloc (.cells #[.slice b1 l1 d1, .slice b2 l2 d2] 98) := ⟨_, rfl⟩
    have HV2 : Hid (V2 = w2.alloc (.cells #[.slice b1 l1 d1, .slice b2 l2 d2] 98)) := hV2
    have aV2 : Below w2.heap.size w2 V2 := by rw [hV2]; exact (Below.refl _ _).alloc (Nat.le_refl _) _
    have bV2 : Below w1.heap.size w1 V2 := hb2.trans (aV2.mono hb2.size)
    have hh2 : H2 V2 w1.heap.size w2.heap.size (.slice b1 l1 d1) (.slice b2 l2 d2) (hdlsA ta tl) (hdlsA ka kl) := by rw [hV2]; exact H2.new tp hb2.size _
    have HKW : Hid (∀ X, Below w1.heap.size w1 X → Below w.heap.size w X ∧ S4 X w.heap.size (.int .i64 bu) (.int .i64 gu) (.slice ta tn tc) (.slice ka kn kc) ∧ S5 X (w.heap.size + 1) (.int .i64 0) (.int .i64 0) (.int .i64 0) (.slice none 0 0) (.slice none 0 0) ∧ w.heap.size + 2 ≤ X.heap.size) := fun X hX => ⟨K1.out.1.trans (hX.mono K1.out.1.size), K1.out.2.1.keep hX, K1.out.2.2.1.keep hX, by have := K1.out.2.2.2; have := hX.size; omega⟩
    have CT := HTK.out V2 w2.heap.size w1.heap.size _ _ (HKW.out _ bV2).1 hh2 bV2.size
    have K2 : Hid (Below w1.heap.size w1 V2) := bV2
    clear hV2 aV2 bV2 hb2 tp K1 HSO e0 e1 e2 e3 hh2 HTK
    go_wp2_with fail
    rw [← HV2.out]
    refine CT.mono ?_
    rintro r0 w3 ⟨y, u1, u2, m1, m2, rfl, hy1, hy2, hh3, g1, g2, g3, g4, hb3⟩
    have b3 : Below w1.heap.size w1 w3 := K2.out.trans hb3
    have CP := HPF.out w3 w2.heap.size w1.heap.size u1 u2 m1 m2 y hh3 b3.size g4
    have s0 := (HKW.out w1 (Below.refl _ _)).1.size
    have GG := hidP (show m1.map Hdl.x = (tl.map Prod.fst).filter (fun x => !isKey key x) ∧ (y :: m2).map Hdl.x = x :: (kl.map Prod.fst).filter (fun x => !isKey key x) ∧ (∀ h ∈ m1 ++ y :: m2, h ∈ hdl2 ta ka tl kl) ∧ m1.length + (y :: m2).length ≤ 41 from ⟨g1, by rw [List.map_cons, g2, hy2], fun h hh => by
      simp only [List.mem_append, List.mem_cons] at hh
      rcases hh with hh | rfl | hh
      · exact g3 h (List.mem_append_left _ hh)
      · exact hy1
      · exact g3 h (List.mem_append_right _ hh), by simp only [List.length_cons]; omega⟩)
    have B3 := hidP b3
    have S0 := hidP s0
    clear CT K2 HV2 hh3 g1 g2 g3 g4 hb3 b3 hy1 hy2 s0 HPF
    go_wp2_with fail
    refine CP.mono ?_
    rintro r0 w5 ⟨rfl, u', hh5, hb5⟩
    have b5 := B3.out.trans hb5
    obtain ⟨bw5, s45, s55, z5⟩ := HKW.out _ b5
    have CL := HLK.out w5 w2.heap.size w1.heap.size u1 u' m1 (y :: m2) bw5 S0.out hh5 b5.size GG.out.2.2.2 GG.out.2.2.1
    rw [GG.out.1, GG.out.2.1] at CL
    have B5 := hidP b5
    have e1 := s45.c1
    clear CP hh5 hb5 b5 bw5 s45 s55 z5 B3 GG HLK
    go_wp2_with fail
    refine CL.mono ?_
    rintro r0 w6 ⟨rfl, ⟨v1', v2', n1', n2', hh6, g1, g3, g4⟩, hb6⟩
    have b6 := B5.out.trans hb6
    obtain ⟨bw3, s43, s53, z3⟩ := HKW.out _ b6
    have CSL := HSL.out w6 v1' v2' _ n1' n2' bw3 hh6.tp g3 g4
    have HG1 := hidP g1
    have y0 := hh6.c0
    have y1 := hh6.c1
    obtain ⟨f1, c1, rfl, _⟩ := hh6.tp.a.form
    obtain ⟨f2, c2, rfl, _⟩ := hh6.tp.b.form
    generalize n1'.length = n1 at *
    generalize n2'.length = n2 at *
    clear e1
    have e0 := s43.c0
    have e1 := s43.c1
    have e2 := s43.c2
    have e3 := s43.c3
    have K3 : Hid (Below w.heap.size w w6 ∧ S5 w6 (w.heap.size + 1) (.int .i64 0) (.int .i64 0) (.int .i64 0) (.slice none 0 0) (.slice none 0 0) ∧ w.heap.size + 2 ≤ w6.heap.size) := ⟨bw3, s53, z3⟩
    clear CL HKW hh6 g1 g3 g4 hb6 b6 bw3 s43 s53 z3 HSL B5
    go_wp2_with fail
    refine CSL.mono ?_
    rintro r0 w4 ⟨⟨a1, k1, p1, a2, k2, p2, j1, j2, rfl, q1, q2, o⟩, hb4⟩
    have K4 : Hid (Below w.heap.size w w4 ∧ StoLV w4 w6.heap.size (.slice a1 p1 k1) (.slice a2 p2 k2) j1 j2 ∧ w.heap.size + 2 ≤ w6.heap.size) := ⟨K3.out.1.trans (hb4.mono K3.out.1.size), o, K3.out.2.2⟩
    have hs5 := K3.out.2.1.keep hb4
    have z0 := hs5.c0
    have z1 := hs5.c1
    have z2 := hs5.c2
    have z3 := hs5.c3
    have z4 := hs5.c4
    have zf0 := hs5.fr 0
    have zf1 := hs5.fr 1
    have zf2 := hs5.fr 2
    have zf3 := hs5.fr 3
    have zf4 := hs5.fr 4
    have HQ : Hid (j1.map Prod.fst = (lowR gu ((tl.map Prod.fst).filter (fun x => !isKey key x)) (x :: (kl.map Prod.fst).filter (fun x => !isKey key x)).reverse).1 ∧ j2.map Prod.fst = (lowR gu ((tl.map Prod.fst).filter (fun x => !isKey key x)) (x :: (kl.map Prod.fst).filter (fun x => !isKey key x)).reverse).2) := ⟨by rw [q1, ← HG1.out], by rw [q2, ← HG1.out]⟩
    clear hs5 K3 o hb4 CSL q1 q2 e0 e1 e2 e3 y0 y1 HG1
    go_wp2_with fail
    refine bodyPost_ret (v := .agg #[.int .i64 0, .int .i64 bu, .int .i64 gu, .slice a1 p1 k1, .slice a2 p2 k2]) (by simp [results, Tryz.results11, go_sem, z0, z1, z2, z3, z4]) rfl ?_
    have hlt : w.heap.size + 1 < w6.heap.size := by have := K4.out.2.2; omega
    exact ⟨(StoAns.got (((((K4.out.2.1.off1 _ hlt).off1 _ hlt).off1 _ hlt).off1 _ hlt).off1 _ hlt) (Nat.le_trans (Nat.le_succ _) (Nat.le_of_lt hlt)) HQ.out.1 HQ.out.2).of HAe.out, ((((K4.out.1.setCell (by simp) _).setCell (by simp) _).setCell (by simp) _).setCell (by simp) _).setCell (by simp) _⟩
  · have HAe : Hid (A = badA c) := by have := HA.out; rw [if_pos hc] at this; exact this.symm
    clear HA HP HSO HX2 HTH HTS htn hkn HL1
    go_enter Tryz.func11, Tryz.ntmps11
    go_wp2_with fail
    rw [← HW.out]
    refine (HKF.out _ K0.out.1).mono ?_
    rintro r0 w1 ⟨rfl, hb1⟩
    have HB : Hid (Below w.heap.size w w1) := K0.out.1.trans (hb1.mono K0.out.1.size)
    have hs5 := K0.out.2.2.1.keep hb1
    have z0 := hs5.c0
    have z1 := hs5.c1
    have z2 := hs5.c2
    have z3 := hs5.c3
    have z4 := hs5.c4
    have zf0 := hs5.fr 0
    have zf1 := hs5.fr 1
    have zf2 := hs5.fr 2
    have zf3 := hs5.fr 3
    have zf4 := hs5.fr 4
    clear K0 HW hb1 HKF e0 e1 e2 e3 hs5
    go_wp2_with fail
    refine bodyPost_ret (v := .agg #[.int .i64 c, .int .i64 0, .int .i64 0, .slice none 0 0, .slice none 0 0]) (by simp [results, Tryz.results11, go_sem, z0, z1, z2, z3, z4]) rfl ?_
    exact ⟨(StoAns.bad _ _ _).of HAe.out, ((((HB.out.setCell (by simp) _).setCell (by simp) _).setCell (by simp) _).setCell (by simp) _).setCell (by simp) _⟩
end Go.Proofs.YtdooopkpnanekaaGreatDoor
/-
  TouchEntry, by the model.
-/
namespace Go.Proofs.YtdooopkpnanekaaGreatDoor
open Go.ChangeShapes Go.WideShapes Go.ChangeAt Go.RowKit Go.Sort
set_option maxRecDepth 100000 in
set_option maxHeartbeats 16000000 in
theorem specTouch_any (w : World) (bu gu : Int) (ta ka : Option Addr) (tc kc : Nat) (tl kl : List (Ent × EntR)) (key : ByteArray) (hl : tl.length ≤ 1048576) (hk : kl.length ≤ 1048576) (hto : ∀ q ∈ tl ++ kl, EntOk q.1) (hft : ∀ q ∈ tl ++ kl, EntFit q.1) (ht : EntsIn w ta tl) (hq : EntsIn w ka kl) :
    Calls Tryz.prog 9 #[.agg #[.int .i64 bu, .int .i64 gu, .slice ta tl.length tc, .slice ka kl.length kc], .string key] w fun e w' => StoAns (touchA bu gu (tl.map Prod.fst) (kl.map Prod.fst) key) w.heap.size e w' ∧ Below w.heap.size w w' := by
  obtain ⟨W, hW⟩ : ∃ W, W = (w.alloc (.cells #[.int .i64 bu, .int .i64 gu, .slice ta tl.length tc, .slice ka kl.length kc] 28)).alloc (.cells #[.int .i64 0, .int .i64 0, .int .i64 0, .slice none 0 0, .slice none 0 0] 30) := ⟨_, rfl⟩
  have HW : Hid (W = (w.alloc (.cells #[.int .i64 bu, .int .i64 gu, .slice ta tl.length tc, .slice ka kl.length kc] 28)).alloc (.cells #[.int .i64 0, .int .i64 0, .int .i64 0, .slice none 0 0, .slice none 0 0] 30)) := hW
  have K0 : Hid (Below w.heap.size w W ∧ S4 W w.heap.size (.int .i64 bu) (.int .i64 gu) (.slice ta tl.length tc) (.slice ka kl.length kc) ∧ S5 W (w.heap.size + 1) (.int .i64 0) (.int .i64 0) (.int .i64 0) (.slice none 0 0) (.slice none 0 0) ∧ w.heap.size + 2 ≤ W.heap.size) := by
    rw [hW]
    refine ⟨((Below.refl _ _).alloc (Nat.le_refl _) _).alloc (by simp) _, (S4.new w _ _ _ _ _).keep ((Below.refl _ _).alloc (Nat.le_refl _) _), ?_, by simp⟩
    have := S5.new (w.alloc (.cells #[.int .i64 bu, .int .i64 gu, .slice ta tl.length tc, .slice ka kl.length kc] 28)) (.int .i64 0) (.int .i64 0) (.int .i64 0) (.slice none 0 0) (.slice none 0 0) 30
    simpa using this
  have CA : Hid (Calls Tryz.prog 52 #[.pointer (some ⟨w.heap.size, 0, none⟩), .string key] W fun e w' => AskOk (peekR bu gu (tl.map Prod.fst) (kl.map Prod.fst) key).1 bu gu (tl.map Prod.fst) (kl.map Prod.fst) W.heap.size e w' ∧ Below W.heap.size W w') := l8Ask_at W w.heap.size bu gu ta ka tc kc tl kl key K0.out.2.1 hl hk hto hft (ht.keep K0.out.1) (hq.keep K0.out.1)
  have HLN : Hid (tl.length ≤ 1048576 ∧ kl.length ≤ 1048576) := ⟨hl, hk⟩
  obtain ⟨A, hA⟩ : ∃ A, touchA bu gu (tl.map Prod.fst) (kl.map Prod.fst) key = A := ⟨_, rfl⟩
  rw [hA]
  unfold touchA at hA
  have HA : Hid (_ = A) := hA
  clear hW hl hk hto hft ht hq hA
  obtain ⟨P, hP⟩ : ∃ P, peekR bu gu (tl.map Prod.fst) (kl.map Prod.fst) key = P := ⟨_, rfl⟩
  have HP : Hid (peekR bu gu (tl.map Prod.fst) (kl.map Prod.fst) key = P) := hP
  rw [hP] at CA HA
  clear hP
  obtain ⟨c, x⟩ := P
  simp only at CA HA
  go_enter Tryz.func9, Tryz.ntmps9
  go_wp2_with fail
  rw [← HW.out]
  refine CA.out.mono ?_
  rintro r0 w1 ⟨hask, hb1⟩
  clear CA HW
  rcases hask with ⟨hc, rfl⟩ | ⟨rfl, a1, k1, n1, a2, k2, n2, m1, m2, rfl, q1, q2, o⟩
  · have aV : Below w1.heap.size w1 (w1.alloc (.cells #[.int .i64 0, .int .i64 0, .slice none 0 0, .slice none 0 0] 28)) := (Below.refl _ _).alloc (Nat.le_refl _) _
    have s5 := (K0.out.2.2.1.keep hb1).keep aV
    have b1 := K0.out.1.trans (hb1.mono K0.out.1.size)
    have HB : Hid (Below w.heap.size w (w1.alloc (.cells #[.int .i64 0, .int .i64 0, .slice none 0 0, .slice none 0 0] 28))) := b1.trans (aV.mono b1.size)
    have z0 := s5.c0
    have z1 := s5.c1
    have z2 := s5.c2
    have z3 := s5.c3
    have z4 := s5.c4
    have zf0 := s5.fr 0
    have zf1 := s5.fr 1
    have zf2 := s5.fr 2
    have zf3 := s5.fr 3
    have zf4 := s5.fr 4
    clear s5 aV hb1 b1 K0 HLN
    go_wp2_with fail
    refine bodyPost_ret (v := .agg #[.int .i64 c, .int .i64 0, .int .i64 0, .slice none 0 0, .slice none 0 0]) (by simp [results, Tryz.results9, go_sem, z0, z1, z2, z3, z4]) rfl ?_
    refine ⟨(StoAns.bad c _ _).of (by rw [← HA.out, if_pos hc]), ?_⟩
    exact ((((HB.out.setCell (by simp) _).setCell (by simp) _).setCell (by simp) _).setCell (by simp) _).setCell (by simp) _
  · obtain ⟨V1, hV1⟩ : ∃ V, V = w1.alloc (.cells #[.int .i64 bu, .int .i64 gu, .slice a1 n1 k1, .slice a2 n2 k2] 28) := ⟨_, rfl⟩
    have HV1 : Hid (V1 = w1.alloc (.cells #[.int .i64 bu, .int .i64 gu, .slice a1 n1 k1, .slice a2 n2 k2] 28)) := hV1
    have aV : Below w1.heap.size w1 V1 := by rw [hV1]; exact (Below.refl _ _).alloc (Nat.le_refl _) _
    have sV : S4 V1 w1.heap.size (.int .i64 bu) (.int .i64 gu) (.slice a1 n1 k1) (.slice a2 n2 k2) := by rw [hV1]; exact S4.new w1 _ _ _ _ _
    have b1 := K0.out.1.trans (hb1.mono K0.out.1.size)
    have ln1 : m1.length ≤ 1048576 := by have := congrArg List.length q1; rw [List.length_map, List.length_map] at this; have := HLN.out.1; omega
    have ln2 : m2.length ≤ 1048576 := by have := congrArg List.length q2; rw [List.length_map, List.length_map] at this; have := HLN.out.2; omega
    obtain ⟨hst, hfd⟩ := peekR_zero (bu := bu) (gu := gu) (tl := tl.map Prod.fst) (kl := kl.map Prod.fst) (key := key) (by rw [HP.out])
    rw [HP.out] at hfd
    have hent := storeC_ent hst
    have hln := (storeC_zero hst).2.1
    have hgu := (storeC_zero hst).1.2.2.1
    rw [← q1, ← q2] at hfd hent
    rw [← q1, ← q2, List.length_map, List.length_map] at hln
    have CD := hidL (l8Touch_at V1 w1.heap.size W.heap.size bu gu (.slice a1 n1 k1) (.slice a2 n2 k2) m1 m2 key x ⟨sV, o.below aV, by have := hb1.size; have := aV.size; omega, fun hm => by rcases List.mem_append.1 hm with h | h; exact absurd (o.t.lt (List.mem_append.2 (.inl h))) (by omega); exact absurd (o.t.lt (List.mem_append.2 (.inr h))) (by omega), fun hm => by rcases List.mem_append.1 hm with h | h; exact absurd (o.k.lt (List.mem_append.2 (.inl h))) (by omega); exact absurd (o.k.lt (List.mem_append.2 (.inr h))) (by omega)⟩ hln (fun q hq => hent q.1 (by rw [← List.map_append]; exact List.mem_map_of_mem hq)) hfd hgu)
    rw [q1, q2] at CD
    have K1 : Hid (Below w.heap.size w V1 ∧ S5 V1 (w.heap.size + 1) (.int .i64 0) (.int .i64 0) (.int .i64 0) (.slice none 0 0) (.slice none 0 0) ∧ w.heap.size + 2 ≤ W.heap.size ∧ W.heap.size ≤ w1.heap.size) := ⟨b1.trans (aV.mono b1.size), (K0.out.2.2.1.keep hb1).keep aV, K0.out.2.2.2, hb1.size⟩
    have HM : Hid (m1.map Prod.fst = tl.map Prod.fst ∧ m2.map Prod.fst = kl.map Prod.fst) := ⟨q1, q2⟩
    clear hV1 aV sV b1 hb1 K0 HLN o q1 q2 ln1 ln2 hst hfd hent hln hgu
    go_wp2_with fail
    rw [← HV1.out]
    refine Calls.mono CD.out ?_
    rintro e0 w2 ⟨rfl, ⟨u1, u2, p1, p2, hI, hres⟩, hb2⟩
    have s2 := hI.s
    have o2 := hI.o
    obtain ⟨c1, d1, rfl, _⟩ := row_form o2.t.own
    obtain ⟨c2, d2, rfl, _⟩ := row_form o2.k.own
    have hs5 : S5 w2 (w.heap.size + 1) (.int .i64 0) (.int .i64 0) (.int .i64 0) (.slice none 0 0) (.slice none 0 0) := K1.out.2.1.low hb2 (by have := K1.out.2.2; omega)
    have HB : Hid (Below w.heap.size w w2) := K1.out.1.trans (hb2.mono (by have := K1.out.2.2; omega))
    have HO := hidL (show ∃ p1' p2' : List (Ent × EntR), (p1'.map Prod.fst, p2'.map Prod.fst) = lowR gu ((tl.map Prod.fst).filter fun x => !isKey key x) (x :: (kl.map Prod.fst).filter fun x => !isKey key x).reverse ∧ StoO w2 W.heap.size (.slice c1 p1.length d1) (.slice c2 p2.length d2) p1' p2' from ⟨p1, p2, hres, o2⟩)
    have HWB : Hid (w.heap.size + 1 < W.heap.size) := by show _ < _; have := K1.out.2.2; omega
    have z0 := hs5.c0
    have z1 := hs5.c1
    have z2 := hs5.c2
    have z3 := hs5.c3
    have z4 := hs5.c4
    have zf0 := hs5.fr 0
    have zf1 := hs5.fr 1
    have zf2 := hs5.fr 2
    have zf3 := hs5.fr 3
    have zf4 := hs5.fr 4
    have y0 := s2.c0
    have y1 := s2.c1
    have y2 := s2.c2
    have y3 := s2.c3
    generalize p1.length = f1 at *
    generalize p2.length = f2 at *
    clear hs5 s2 o2 hb2 K1 CD HV1 HM hI hres
    go_wp2_with fail
    refine bodyPost_ret (v := .agg #[.int .i64 0, .int .i64 bu, .int .i64 gu, .slice c1 f1 d1, .slice c2 f2 d2]) (by simp [results, Tryz.results9, go_sem, z0, z1, z2, z3, z4]) rfl ?_
    obtain ⟨p1, p2, hres, o⟩ := HO.out
    have hlt := HWB.out
    refine ⟨(StoAns.got (c := 0) (bu := bu) (gu := gu) (((((o.off1 _ hlt).off1 _ hlt).off1 _ hlt).off1 _ hlt).off1 _ hlt).lv (Nat.le_trans (Nat.le_succ _) (Nat.le_of_lt hlt)) (congrArg Prod.fst hres) (congrArg Prod.snd hres)).of (by rw [← HA.out, if_neg (by simp)]), ?_⟩
    exact ((((HB.out.setCell (by simp) _).setCell (by simp) _).setCell (by simp) _).setCell (by simp) _).setCell (by simp) _
end Go.Proofs.YtdooopkpnanekaaGreatDoor
/-
  6 cells that may be written.
-/
namespace Go.Proofs.YtdooopkpnanekaaGreatDoor
open Go.ChangeShapes Go.WideShapes Go.ChangeAt Go.RowKit
structure S6 (w : World) (b : Nat) (v0 v1 v2 v3 v4 v5 : Value) : Prop where
  c0 : w.cell? ⟨b, 0, none⟩ = some v0
  c1 : w.cell? ⟨b, 1, none⟩ = some v1
  c2 : w.cell? ⟨b, 2, none⟩ = some v2
  c3 : w.cell? ⟨b, 3, none⟩ = some v3
  c4 : w.cell? ⟨b, 4, none⟩ = some v4
  c5 : w.cell? ⟨b, 5, none⟩ = some v5
  fr : ∀ o, w.frozen? ⟨b, o, none⟩ = false
  lt : b < w.heap.size
section
variable {w w' : World} {b : Nat} {v0 v1 v2 v3 v4 v5 : Value}
theorem S6.keep (k : S6 w b v0 v1 v2 v3 v4 v5) (hb : Below w.heap.size w w') : S6 w' b v0 v1 v2 v3 v4 v5 :=
  ⟨by rw [hb.cell (p := ⟨b, 0, none⟩) k.lt]; exact k.c0, by rw [hb.cell (p := ⟨b, 1, none⟩) k.lt]; exact k.c1, by rw [hb.cell (p := ⟨b, 2, none⟩) k.lt]; exact k.c2, by rw [hb.cell (p := ⟨b, 3, none⟩) k.lt]; exact k.c3, by rw [hb.cell (p := ⟨b, 4, none⟩) k.lt]; exact k.c4, by rw [hb.cell (p := ⟨b, 5, none⟩) k.lt]; exact k.c5, fun o => by rw [hb.frozen (p := ⟨b, o, none⟩) k.lt]; exact k.fr o, Nat.lt_of_lt_of_le k.lt hb.size⟩
theorem S6.low (k : S6 w b v0 v1 v2 v3 v4 v5) {B : Nat} (hb : Below B w w') (h : b < B) : S6 w' b v0 v1 v2 v3 v4 v5 :=
  ⟨by rw [hb.cell (p := ⟨b, 0, none⟩) h]; exact k.c0, by rw [hb.cell (p := ⟨b, 1, none⟩) h]; exact k.c1, by rw [hb.cell (p := ⟨b, 2, none⟩) h]; exact k.c2, by rw [hb.cell (p := ⟨b, 3, none⟩) h]; exact k.c3, by rw [hb.cell (p := ⟨b, 4, none⟩) h]; exact k.c4, by rw [hb.cell (p := ⟨b, 5, none⟩) h]; exact k.c5, fun o => by rw [hb.frozen (p := ⟨b, o, none⟩) h]; exact k.fr o, Nat.lt_of_lt_of_le k.lt hb.size⟩
theorem S6.new (w : World) (v0 v1 v2 v3 v4 v5 : Value) (t : TypeId) : S6 (w.alloc (.cells #[v0, v1, v2, v3, v4, v5] t)) w.heap.size v0 v1 v2 v3 v4 v5 := ⟨by simp, by simp, by simp, by simp, by simp, by simp, fun o => by simp, by simp⟩
theorem S6.off (k : S6 w b v0 v1 v2 v3 v4 v5) {B i : Nat} {x : Value} (h : B ≠ b) : S6 (w.setCell ⟨B, i, none⟩ x) b v0 v1 v2 v3 v4 v5 := by
  have ne : ∀ o : Nat, (⟨B, i, none⟩ : Addr) ≠ ⟨b, o, none⟩ := fun o q => h (congrArg Addr.block q)
  exact ⟨by rw [World.cell?_setCell_other _ _ _ _ (ne _)]; exact k.c0, by rw [World.cell?_setCell_other _ _ _ _ (ne _)]; exact k.c1, by rw [World.cell?_setCell_other _ _ _ _ (ne _)]; exact k.c2, by rw [World.cell?_setCell_other _ _ _ _ (ne _)]; exact k.c3, by rw [World.cell?_setCell_other _ _ _ _ (ne _)]; exact k.c4, by rw [World.cell?_setCell_other _ _ _ _ (ne _)]; exact k.c5, fun o => by rw [World.frozen?_setCell]; exact k.fr o, by simpa using k.lt⟩
theorem S6.above {hi : Nat} (k : S6 w b v0 v1 v2 v3 v4 v5) (h : Above hi w w') (hb : hi ≤ b) : S6 w' b v0 v1 v2 v3 v4 v5 :=
  ⟨by rw [h.cell b 0 hb k.lt]; exact k.c0, by rw [h.cell b 1 hb k.lt]; exact k.c1, by rw [h.cell b 2 hb k.lt]; exact k.c2, by rw [h.cell b 3 hb k.lt]; exact k.c3, by rw [h.cell b 4 hb k.lt]; exact k.c4, by rw [h.cell b 5 hb k.lt]; exact k.c5, fun o => by rw [h.frozen b o hb k.lt]; exact k.fr o, Nat.lt_of_lt_of_le k.lt h.size⟩
end
end Go.Proofs.YtdooopkpnanekaaGreatDoor
/-
  Answers that bear a store and texts: where they lie.
-/
namespace Go.Proofs.YtdooopkpnanekaaGreatDoor
open Go.ChangeShapes Go.WideShapes Go.ChangeAt Go.RowKit Go.Sort
structure QR where
  s : SR
  a3 : Option Addr
  k3 : Nat
  n3 : Nat
def QR.v (r : QR) : Value := .slice r.a3 r.n3 r.k3
def QIn (W : World) (r : QR) (L1 L2 : List Ent) (G : List ByteArray) : Prop := RIn W r.s L1 L2 ∧ TLV W r.v G
def QSto (W : World) (base hi : Nat) (r : QR) (L1 L2 : List Ent) (G : List ByteArray) : Prop := ∃ m1 m2, m1.map Prod.fst = L1 ∧ m2.map Prod.fst = L2 ∧ StoLV W base r.s.t r.s.k m1 m2 ∧ (∀ b ∈ fp r.s.t m1 ++ fp r.s.k m2, b < hi) ∧ TLV W r.v G ∧ (∀ b, r.v.ownBlock = some b → base ≤ b ∧ b < hi ∧ b ∉ fp r.s.t m1 ∧ b ∉ fp r.s.k m2)
def QHeld (W : World) (r : QR) (L1 L2 : List Ent) (G : List ByteArray) : Prop := RHeld W r.s L1 L2 ∧ TLV W r.v (mkTL (nStoE L1 L2) G.length)
theorem QIn.keep {W W' : World} {r : QR} {L1 L2 : List Ent} {G : List ByteArray} (h : QIn W r L1 L2 G) (hb : Below W.heap.size W W') : QIn W' r L1 L2 G := ⟨h.1.keep hb, h.2.below hb⟩
theorem QSto.below {W W' : World} {base hi : Nat} {r : QR} {L1 L2 : List Ent} {G : List ByteArray} (h : QSto W base hi r L1 L2 G) (hb : Below W.heap.size W W') : QSto W' base hi r L1 L2 G := by
  obtain ⟨m1, m2, e1, e2, h1, h2, h3, h4⟩ := h
  exact ⟨m1, m2, e1, e2, h1.below hb, h2, h3.below hb, h4⟩
theorem QSto.above {W W' : World} {h0 base hi : Nat} {r : QR} {L1 L2 : List Ent} {G : List ByteArray} (h : QSto W base hi r L1 L2 G) (ha : Above h0 W W') (hb : h0 ≤ base) : QSto W' base hi r L1 L2 G := by
  obtain ⟨m1, m2, e1, e2, h1, h2, h3, h4⟩ := h
  exact ⟨m1, m2, e1, e2, h1.above ha hb, h2, h3.out (.of_above ha) (fun b e => by have := (h4 b e).1; simp; omega), h4⟩
theorem QHeld.below {W W' : World} {r : QR} {L1 L2 : List Ent} {G : List ByteArray} (h : QHeld W r L1 L2 G) (hb : Below W.heap.size W W') : QHeld W' r L1 L2 G := ⟨h.1.below hb, h.2.below hb⟩
theorem QSto.in {W : World} {base hi : Nat} {r : QR} {L1 L2 : List Ent} {G : List ByteArray} (h : QSto W base hi r L1 L2 G) : QIn W r L1 L2 G := by
  obtain ⟨m1, m2, e1, e2, h1, h2, h3, h4⟩ := h
  exact ⟨RSto.in (base := base) (hi := hi) ⟨m1, m2, e1, e2, h1, h2⟩, h3⟩
theorem QSto.mk {W : World} {base : Nat} {r : QR} {L1 L2 : List Ent} {G : List ByteArray} {m1 m2 : List (Ent × EntR)} (e1 : m1.map Prod.fst = L1) (e2 : m2.map Prod.fst = L2) (h : StoLV W base r.s.t r.s.k m1 m2) (ht : TLV W r.v G) (hn : ∀ b, r.v.ownBlock = some b → base ≤ b ∧ b ∉ fp r.s.t m1 ∧ b ∉ fp r.s.k m2) : QSto W base W.heap.size r L1 L2 G :=
  ⟨m1, m2, e1, e2, h, fun b hb => by
    rcases List.mem_append.1 hb with hb | hb
    · exact h.t.lt hb
    · exact h.k.lt hb, ht, fun b e => ⟨(hn b e).1, ht.block_lt b e, (hn b e).2.1, (hn b e).2.2⟩⟩
def nPurE (L1 L2 : List Ent) (G : List ByteArray) : Nat := nStoE L1 L2 + G.length
/-- A store and texts that are handed back, with their code. -/
structure QAns where
  c : Int
  bu : Int
  gu : Int
  t : List Ent
  k : List Ent
  g : List ByteArray
def PurAns (A : QAns) (base : Nat) (e : Ending) (w' : World) : Prop := ∃ r : QR, e = .returned (.agg #[.int .i64 A.c, .int .i64 A.bu, .int .i64 A.gu, .slice r.s.a1 r.s.n1 r.s.k1, .slice r.s.a2 r.s.n2 r.s.k2, .slice r.a3 r.n3 r.k3]) ∧ QSto w' base w'.heap.size r A.t A.k A.g
def badQ (c : Int) : QAns := ⟨c, 0, 0, [], [], []⟩
theorem PurAns.of {A B : QAns} {base : Nat} {e : Ending} {w' : World} (h : PurAns B base e w') (he : A = B) : PurAns A base e w' := he ▸ h
theorem PurAns.got {c bu gu : Int} {t k : List Ent} {G : List ByteArray} {base b : Nat} {a1 a2 a3 : Option Addr} {n1 k1 n2 k2 n3 k3 : Nat} {w' : World} {m1 m2 : List (Ent × EntR)} (h : StoLV w' b (.slice a1 n1 k1) (.slice a2 n2 k2) m1 m2) (hb : base ≤ b) (e1 : m1.map Prod.fst = t) (e2 : m2.map Prod.fst = k) (ht : TLV w' (.slice a3 n3 k3) G) (hn : ∀ q, (Value.slice a3 n3 k3).ownBlock = some q → base ≤ q ∧ q ∉ fp (.slice a1 n1 k1) m1 ∧ q ∉ fp (.slice a2 n2 k2) m2) : PurAns ⟨c, bu, gu, t, k, G⟩ base (.returned (.agg #[.int .i64 c, .int .i64 bu, .int .i64 gu, .slice a1 n1 k1, .slice a2 n2 k2, .slice a3 n3 k3])) w' :=
  ⟨⟨⟨a1, k1, n1, a2, k2, n2⟩, a3, k3, n3⟩, rfl, QSto.mk (r := ⟨⟨a1, k1, n1, a2, k2, n2⟩, a3, k3, n3⟩) e1 e2 (h.lower hb) ht hn⟩
theorem PurAns.bad (c : Int) (base : Nat) (w' : World) : PurAns (badQ c) base (.returned (.agg #[.int .i64 c, .int .i64 0, .int .i64 0, .slice none 0 0, .slice none 0 0, .slice none 0 0])) w' := PurAns.got (StoLV.none w' base) (Nat.le_refl _) rfl rfl (.inl ⟨rfl, rfl⟩) (fun q e => by cases e)
end Go.Proofs.YtdooopkpnanekaaGreatDoor
/-
  Purges, by the model: entries turned, entries taken out.
-/
namespace Go.Proofs.YtdooopkpnanekaaGreatDoor
open Go.ChangeShapes Go.WideShapes Go.ChangeAt Go.RowKit Go.Sort
def softE (x : Ent) : Ent := { x with b1 := true }
def inK (ks : List ByteArray) (x : Ent) : Bool := tagB ks x.key
set_option maxRecDepth 100000 in
set_option maxHeartbeats 8000000 in
theorem l9Soft_o (w : World) (base G cap : Nat) (a : Option Addr) (kc : Nat) (ks : List ByteArray) (m : List (Ent × EntR)) (hm : m.length ≤ 1000) (hks : ks.length ≤ 1000) (h : EntsLV w base (.slice (some ⟨G, 0, none⟩) m.length cap) m) (hbs : base ≤ w.heap.size) (hk : ∀ X, Below base w X → TIn X a ks) :
    Calls Tryz.prog 196 #[.slice (some ⟨G, 0, none⟩) m.length cap, .slice a ks.length kc] w fun e w' => e = .returned (.tuple #[]) ∧ EntsLV w' base (.slice (some ⟨G, 0, none⟩) m.length cap) (turnM (inK ks) softE m) ∧ Out [G] w w' ∧ Below base w w' := by
  have HK : Hid (∀ X, Below base w X → TIn X a ks) := hk
  have HBS : Hid (base ≤ w.heap.size) := hbs
  obtain ⟨n, hn0⟩ : ∃ n, m.length = n := ⟨_, rfl⟩
  rw [hn0] at hm h ⊢
  have HN : Hid (m.length = n) := hn0
  have HST : Hid (EntsLV w base (.slice (some ⟨G, 0, none⟩) n cap) m) := h
  obtain ⟨kn, hkn⟩ : ∃ n, ks.length = n := ⟨_, rfl⟩
  have HKN : Hid (ks.length = kn) := hkn
  rw [hkn] at hks ⊢
  clear hn0 h hk hbs hkn
  go_enter Tryz.func196, Tryz.ntmps196
  go_wp2_with fail
  go_loopw [4] (fun i wr => ∃ A B : List (Ent × EntR), m = A ++ B ∧ i = .int .i64 (A.length : Int) ∧ EntsLV wr base (.slice (some ⟨G, 0, none⟩) n cap) (turnM (inK ks) softE A ++ B) ∧ Out [G] w wr ∧ Below base w wr) (fun i _ => n - (intOf i).toNat)
  case atStart => exact ⟨[], m, rfl, rfl, HST.out, Out.refl _ _, Below.refl _ _⟩
  case round =>
    obtain ⟨A, B, hAB, rfl, ho, hout, hb⟩ := hrel
    clear HST
    obtain ⟨k, hk⟩ : ∃ k, A.length = k := ⟨_, rfl⟩
    have hlen : n = k + B.length := by have := HN.out; rw [hAB, List.length_append] at this; omega
    rw [hk]
    cases B with
    | cons q B =>
      obtain ⟨x, r⟩ := q
      simp only [List.length_cons] at hlen
      have hkn : k < n := by omega
      clear hlen
      have hkA : (turnM (inK ks) softE A).length = k := by rw [turnM_len, hk]
      have cells := ho.at.2.2.2.2.1 k (x, r) (by rw [← hkA]; exact mid_eq _ _ _)
      have c0 : wr.cell? ⟨G, k * 13, none⟩ = some (.string x.key) := cells 0 (by omega)
      have c9 : wr.cell? ⟨G, k * 13 + 9, none⟩ = some (.bool x.b1) := cells 9 (by omega)
      have fz := ho.at.2.2.2.2.2 (k * 13 + 9)
      have CT : Hid (Calls Tryz.prog 163 #[.slice a kn kc, .string x.key] wr fun e w' => e = .returned (.bool (inK ks x)) ∧ w' = wr) := by
        have := specTagged_any wr a kc ks x.key (by have := HKN.out; omega) (HK.out wr hb)
        rw [HKN.out] at this
        exact this
      have gk : (k : Int) < n := by omega
      have gk0 : (0 : Int) ≤ k := by omega
      have HQ : Hid (m = A ++ (x, r) :: B ∧ A.length = k ∧ EntsLV wr base (.slice (some ⟨G, 0, none⟩) n cap) (turnM (inK ks) softE A ++ (x, r) :: B) ∧ Out [G] w wr ∧ Below base w wr ∧ base ≤ G) := ⟨hAB, hk, ho, hout, hb, ho.at.2.2.1⟩
      clear hAB hk ho hout hb cells hkA
      have tapp : turnM (inK ks) softE (A ++ [(x, r)]) = turnM (inK ks) softE A ++ [(if inK ks x then softE x else x, r)] := by unfold turnM; rw [List.map_append]; rfl
      cases he : inK ks x
      · rw [he] at CT tapp
        have HA : Hid (m = (A ++ [(x, r)]) ++ B ∧ (A ++ [(x, r)]).length = k + 1 ∧ EntsLV wr base (.slice (some ⟨G, 0, none⟩) n cap) (turnM (inK ks) softE (A ++ [(x, r)]) ++ B) ∧ Out [G] w wr ∧ Below base w wr) := by
          obtain ⟨h1, h2, h3, h4, h5, _⟩ := HQ.out
          refine ⟨by rw [h1]; simp, by simp [h2], ?_, h4, h5⟩
          rw [tapp]
          simpa using h3
        clear HQ he tapp c9 fz
        generalize x.key = xk at *
        go_wp2_with fail
        refine CT.out.mono ?_
        rintro e w2 ⟨rfl, rfl⟩
        clear CT
        go_wp2_with fail
        go_roundw
        case rel => exact ⟨A ++ [(x, r)], B, HA.out.1, by rw [HA.out.2.1]; go_num, HA.out.2.2.1, HA.out.2.2.2.1, HA.out.2.2.2.2⟩
        case measure => simp [intOf]; omega
      · rw [he] at CT tapp
        have HA : Hid (m = (A ++ [(x, r)]) ++ B ∧ (A ++ [(x, r)]).length = k + 1 ∧ EntsLV (wr.setCell ⟨G, k * 13 + 9, none⟩ (.bool true)) base (.slice (some ⟨G, 0, none⟩) n cap) (turnM (inK ks) softE (A ++ [(x, r)]) ++ B) ∧ Out [G] w (wr.setCell ⟨G, k * 13 + 9, none⟩ (.bool true)) ∧ Below base w (wr.setCell ⟨G, k * 13 + 9, none⟩ (.bool true))) := by
          obtain ⟨h1, h2, h3, h4, h5, h6⟩ := HQ.out
          refine ⟨by rw [h1]; simp, by simp [h2], ?_, h4.trans (Out.set _ _ _ _), h5.setCell h6 _⟩
          rw [tapp]
          have := h3.set (k := k) (by rw [turnM_len, h2]) 9 (by omega) (.bool true) (softE x) rfl rfl rfl rfl
          simpa using this
        clear HQ he tapp
        generalize x.key = xk at *
        go_wp2_with fail
        refine CT.out.mono ?_
        rintro e w2 ⟨rfl, rfl⟩
        clear CT
        go_wp2_with fail
        go_roundw
        case rel => exact ⟨A ++ [(x, r)], B, HA.out.1, by rw [HA.out.2.1]; go_num, HA.out.2.2.1, HA.out.2.2.2.1, HA.out.2.2.2.2⟩
        case measure => simp [intOf]; omega
    | nil =>
      simp only [List.length_nil] at hlen
      have e : k = n := by omega
      clear hlen
      subst e
      simp only [List.append_nil] at hAB ho
      subst hAB
      have HE : Hid (EntsLV wr base (.slice (some ⟨G, 0, none⟩) k cap) (turnM (inK ks) softE m) ∧ Out [G] w wr ∧ Below base w wr) := ⟨ho, hout, hb⟩
      clear ho hout hb hk HN HK
      go_wp2_with fail
      exact bodyPost_end (v := .tuple #[]) (by simp [results, Tryz.results196, go_sem]) rfl ⟨rfl, HE.out⟩
set_option maxHeartbeats 1000000 in
theorem l9Soft_nil (w : World) (a b : Option Addr) (c d n : Nat) : Calls Tryz.prog 196 #[.slice a 0 c, .slice b n d] w fun e w' => e = .returned (.tuple #[]) ∧ Below w.heap.size w w' := by
  go_enter Tryz.func196, Tryz.ntmps196
  go_wp2_with fail
  go_loop [4] (fun i => i = .int .i64 0) (fun _ => 0)
  case atStart => exact rfl
  case round =>
    obtain rfl := hrel
    go_wp2_with fail
    exact bodyPost_end (v := .tuple #[]) (by simp [results, Tryz.results196, go_sem]) rfl ⟨rfl, Below.refl _ _⟩
theorem fp_turnM (v : Value) (p : Ent → Bool) (f : Ent → Ent) (m : List (Ent × EntR)) : fp v (turnM p f m) = fp v m := by unfold fp; rw [foot_turnM]
theorem l9Soft_v (w : World) (base n c : Nat) (v a : Option Addr) (kc : Nat) (ks : List ByteArray) (m : List (Ent × EntR)) (hm : m.length ≤ 1000) (hks : ks.length ≤ 1000) (h : EntsLV w base (.slice v n c) m) (hbs : base ≤ w.heap.size) (hk : ∀ X, Below base w X → TIn X a ks) :
    Calls Tryz.prog 196 #[.slice v n c, .slice a ks.length kc] w fun e w' => e = .returned (.tuple #[]) ∧ EntsLV w' base (.slice v n c) (turnM (inK ks) softE m) ∧ Out (fp (.slice v n c) m) w w' ∧ Below base w w' := by
  rcases h.form with ⟨e, rfl⟩ | ⟨g, c', e, _⟩
  · simp only [Value.slice.injEq] at e
    obtain ⟨rfl, rfl, rfl⟩ := e
    exact (l9Soft_nil w none a 0 kc _).mono fun _ _ ⟨h1, h2⟩ => ⟨h1, h.below h2, .below h2, h2.mono hbs⟩
  · simp only [Value.slice.injEq] at e
    obtain ⟨rfl, rfl, rfl⟩ := e
    refine (l9Soft_o w base g c a kc ks m hm hks h hbs hk).mono ?_
    rintro e w' ⟨h1, h2, h3, h4⟩
    exact ⟨h1, h2, h3.mono (fun b hb => by simp at hb; subst hb; simp [fp, Value.ownBlock]), h4⟩
/-! ### keys taken out one behind the other -/
def offKs (ks : List ByteArray) (m : List (Ent × EntR)) : List (Ent × EntR) := m.filter fun q => !inK ks q.1
theorem isKey_iff {key : ByteArray} {x : Ent} : isKey key x = decide (key = x.key) := by
  unfold isKey
  by_cases h : key = x.key
  · subst h; simp
  · rw [decide_eq_false h, beq_eq_false_iff_ne]
    intro e
    rw [ByteArray.toList_eq, ByteArray.toList_eq] at e
    exact h (ByteArray.ext (Array.ext' e)).symm
theorem offKs_next {ks : List ByteArray} {j : Nat} {key : ByteArray} {m : List (Ent × EntR)} (h : ks[j]? = some key) : offKey key (offKs (ks.take j) m) = offKs (ks.take (j + 1)) m := by
  unfold offKey offKs
  rw [List.filter_filter, take_next h]
  congr 1
  funext q
  unfold inK tagB
  rw [List.any_append, isKey_iff]
  simp [Bool.and_comm]
theorem offKs_nil (m : List (Ent × EntR)) : offKs [] m = m := by unfold offKs; exact List.filter_eq_self.2 fun q _ => by simp [inK, tagB]
theorem offKs_map (ks : List ByteArray) (m : List (Ent × EntR)) : (offKs ks m).map Prod.fst = (m.map Prod.fst).filter fun x => !inK ks x := by
  unfold offKs
  rw [List.filter_map]
  rfl
theorem foot_offKs {ks : List ByteArray} {l : List (Ent × EntR)} {b : Nat} (h : b ∈ foot (offKs ks l)) : b ∈ foot l := (foot_sub List.filter_sublist).subset h
set_option maxRecDepth 100000 in
set_option maxHeartbeats 8000000 in
theorem l9Hard_at (w : World) (B base : Nat) (bu gu : Int) (v1 v2 : Value) (l1 l2 : List (Ent × EntR)) (a : Option Addr) (kc : Nat) (ks : List ByteArray) (hks : ks.length ≤ 1000) (hs : S4 w B (.int .i64 bu) (.int .i64 gu) v1 v2) (h : StoO w base v1 v2 l1 l2) (hbase : base ≤ w.heap.size) (hbB : base ≤ B) (hB1 : B ∉ v1.ownBlock.toList ++ foot l1) (hB2 : B ∉ v2.ownBlock.toList ++ foot l2) (n1 : l1.length ≤ 1048576) (n2 : l2.length ≤ 1048576) (hk : ∀ X, Below base w X → TIn X a ks) :
    Calls Tryz.prog 162 #[.pointer (some ⟨B, 0, none⟩), .slice a ks.length kc, .bool true] w fun e w' => e = .returned (.tuple #[]) ∧ (∃ a1 k1 n1 a2 k2 n2, S4 w' B (.int .i64 bu) (.int .i64 gu) (.slice a1 n1 k1) (.slice a2 n2 k2) ∧ StoLV w' base (.slice a1 n1 k1) (.slice a2 n2 k2) (offKs ks l1) (offKs ks l2)) ∧ Below base w w' := by
  have HK : Hid (∀ X, Below base w X → TIn X a ks) := hk
  have HBS : Hid (base ≤ w.heap.size ∧ base ≤ B) := ⟨hbase, hbB⟩
  have HL : Hid (l1.length ≤ 1048576 ∧ l2.length ≤ 1048576) := ⟨n1, n2⟩
  have HST : Hid (∃ u1 u2, S4 w B (.int .i64 bu) (.int .i64 gu) u1 u2 ∧ StoO w base u1 u2 (offKs (ks.take 0) l1) (offKs (ks.take 0) l2) ∧ B ∉ u1.ownBlock.toList ++ foot (offKs (ks.take 0) l1) ∧ B ∉ u2.ownBlock.toList ++ foot (offKs (ks.take 0) l2)) := by
    refine ⟨v1, v2, hs, ?_⟩
    rw [List.take_zero, offKs_nil, offKs_nil]
    exact ⟨h, hB1, hB2⟩
  clear hk hs h hbase hbB hB1 hB2 n1 n2
  obtain ⟨kn, hkn⟩ : ∃ n, ks.length = n := ⟨_, rfl⟩
  have HKN : Hid (ks.length = kn) := hkn
  rw [hkn] at hks ⊢
  clear hkn
  go_enter Tryz.func162, Tryz.ntmps162
  go_wp2_with fail
  go_loopw [6] (fun i wr => ∃ j : Nat, j ≤ kn ∧ i = .int .i64 (j : Int) ∧ (∃ u1 u2, S4 wr B (.int .i64 bu) (.int .i64 gu) u1 u2 ∧ StoO wr base u1 u2 (offKs (ks.take j) l1) (offKs (ks.take j) l2) ∧ B ∉ u1.ownBlock.toList ++ foot (offKs (ks.take j) l1) ∧ B ∉ u2.ownBlock.toList ++ foot (offKs (ks.take j) l2)) ∧ Below base w wr) (fun i _ => kn - (intOf i).toNat)
  case atStart => exact ⟨0, Nat.zero_le _, rfl, HST.out, Below.refl _ _⟩
  case round =>
    obtain ⟨j, hj, rfl, ⟨u1, u2, s, o, b1, b2⟩, hb⟩ := hrel
    clear HST
    by_cases hlt : j < kn
    · obtain ⟨key, hkey⟩ : ∃ r, ks[j]? = some r := ⟨ks[j]'(by have := HKN.out; omega), List.getElem?_eq_getElem _⟩
      have CD := l8Drop_at wr B base bu gu u1 u2 _ _ key s o (by have := HBS.out.1; have := hb.size; omega) b1 b2 (Nat.le_trans (List.length_filter_le _ _) HL.out.1) (Nat.le_trans (List.length_filter_le _ _) HL.out.2)
      rw [offKs_next hkey, offKs_next hkey] at CD
      rcases HK.out wr hb with e | ⟨g, off, rfl, hat⟩
      · rw [e] at hkey; simp at hkey
      have p := hat j key hkey
      have gj : (j : Int) < kn := by omega
      have gj0 : (0 : Int) ≤ j := by omega
      have HB : Hid (Below base w wr) := hb
      clear s o b1 b2 hkey hat hb
      go_wp2_with fail
      refine CD.mono ?_
      rintro e w2 ⟨rfl, hnx, hb2⟩
      have HX : Hid _ := hnx
      have HB2 : Hid (Below base w w2) := HB.out.trans (hb2.mono HBS.out.2)
      clear CD hnx hb2 HB p
      go_wp2_with fail
      go_roundw
      case rel => exact ⟨j + 1, by omega, by go_num, HX.out, HB2.out⟩
      case measure => simp [intOf]; omega
    · have e : j = kn := by omega
      subst e
      rw [List.take_of_length_le (by have := HKN.out; omega)] at o b1 b2
      have HE : Hid ((∃ a1 k1 n1 a2 k2 n2, S4 wr B (.int .i64 bu) (.int .i64 gu) (.slice a1 n1 k1) (.slice a2 n2 k2) ∧ StoLV wr base (.slice a1 n1 k1) (.slice a2 n2 k2) (offKs ks l1) (offKs ks l2)) ∧ Below base w wr) := by
        obtain ⟨a1, k1, rfl, _⟩ := row_form o.t.own
        obtain ⟨a2, k2, rfl, _⟩ := row_form o.k.own
        exact ⟨⟨a1, k1, _, a2, k2, _, s, o.lv⟩, hb⟩
      clear s o b1 b2 hb HK
      go_wp2_with fail
      exact bodyPost_end (v := .tuple #[]) (by simp [results, Tryz.results162, go_sem]) rfl ⟨rfl, HE.out⟩
set_option maxRecDepth 100000 in
set_option maxHeartbeats 8000000 in
theorem l9SoftS_at (w : World) (B base : Nat) (bu gu : Int) (a1 a2 : Option Addr) (n1 k1 n2 k2 : Nat) (l1 l2 : List (Ent × EntR)) (a : Option Addr) (kc : Nat) (ks : List ByteArray) (hks : ks.length ≤ 1000) (hs : S4 w B (.int .i64 bu) (.int .i64 gu) (.slice a1 n1 k1) (.slice a2 n2 k2)) (h : StoLV w base (.slice a1 n1 k1) (.slice a2 n2 k2) l1 l2) (hbase : base ≤ w.heap.size) (hB1 : B ∉ fp (.slice a1 n1 k1) l1) (hB2 : B ∉ fp (.slice a2 n2 k2) l2) (z1 : l1.length ≤ 1000) (z2 : l2.length ≤ 1000) (hk : ∀ X, Below base w X → TIn X a ks) :
    Calls Tryz.prog 162 #[.pointer (some ⟨B, 0, none⟩), .slice a ks.length kc, .bool false] w fun e w' => e = .returned (.tuple #[]) ∧ (S4 w' B (.int .i64 bu) (.int .i64 gu) (.slice a1 n1 k1) (.slice a2 n2 k2) ∧ StoLV w' base (.slice a1 n1 k1) (.slice a2 n2 k2) (turnM (inK ks) softE l1) (turnM (inK ks) softE l2)) ∧ Below base w w' := by
  have so : ∀ {X X' : World} {F : List Nat}, S4 X B (.int .i64 bu) (.int .i64 gu) (.slice a1 n1 k1) (.slice a2 n2 k2) → Out F X X' → B ∉ F → S4 X' B (.int .i64 bu) (.int .i64 gu) (.slice a1 n1 k1) (.slice a2 n2 k2) := fun s o hn => ⟨by rw [o.cell B 0 s.lt hn]; exact s.c0, by rw [o.cell B 1 s.lt hn]; exact s.c1, by rw [o.cell B 2 s.lt hn]; exact s.c2, by rw [o.cell B 3 s.lt hn]; exact s.c3, fun q => by rw [o.frozen B q s.lt hn]; exact s.fr q, Nat.lt_of_lt_of_le s.lt o.size⟩
  have C1 : Hid (Calls Tryz.prog 196 #[.slice a1 n1 k1, .slice a ks.length kc] w fun e w' => e = .returned (.tuple #[]) ∧ S4 w' B (.int .i64 bu) (.int .i64 gu) (.slice a1 n1 k1) (.slice a2 n2 k2) ∧ StoLV w' base (.slice a1 n1 k1) (.slice a2 n2 k2) (turnM (inK ks) softE l1) l2 ∧ Below base w w') := by
    refine (l9Soft_v w base n1 k1 a1 a kc ks l1 z1 hks h.t hbase hk).mono ?_
    rintro e w' ⟨h1, h2, h3, h4⟩
    exact ⟨h1, so hs h3 hB1, ⟨h2, h.k.out h3 (fun b hb e => h.nd b e hb), by rw [fp_turnM]; exact h.nd⟩, h4⟩
  have C2 : Hid (∀ X, S4 X B (.int .i64 bu) (.int .i64 gu) (.slice a1 n1 k1) (.slice a2 n2 k2) → StoLV X base (.slice a1 n1 k1) (.slice a2 n2 k2) (turnM (inK ks) softE l1) l2 → Below base w X → Calls Tryz.prog 196 #[.slice a2 n2 k2, .slice a ks.length kc] X fun e w' => e = .returned (.tuple #[]) ∧ (S4 w' B (.int .i64 bu) (.int .i64 gu) (.slice a1 n1 k1) (.slice a2 n2 k2) ∧ StoLV w' base (.slice a1 n1 k1) (.slice a2 n2 k2) (turnM (inK ks) softE l1) (turnM (inK ks) softE l2)) ∧ Below base w w') := fun X s o hb => by
    refine (l9Soft_v X base n2 k2 a2 a kc ks l2 z2 hks o.k (by have := hb.size; omega) (fun Y hY => hk Y (hb.trans hY))).mono ?_
    rintro e w' ⟨h1, h2, h3, h4⟩
    exact ⟨h1, ⟨so s h3 hB2, ⟨o.t.out h3 (fun b hb e => o.nd b hb e), h2, fun b h5 => by rw [fp_turnM]; exact o.nd b h5⟩⟩, hb.trans h4⟩
  have e2 := hs.c2
  clear hs h hbase hB1 hB2 z1 z2 hk so
  generalize ks.length = kn at *
  go_enter Tryz.func162, Tryz.ntmps162
  go_wp2_with fail
  refine C1.out.mono ?_
  rintro e w1 ⟨rfl, s1, o1, hb1⟩
  have CC := C2.out w1 s1 o1 hb1
  have e3 := s1.c3
  clear C1 C2 s1 o1 hb1 e2
  go_wp2_with fail
  refine CC.mono ?_
  rintro e w2 ⟨rfl, hnx⟩
  have HX : Hid _ := hnx
  clear CC hnx e3
  go_wp2_with fail
  exact bodyPost_ret (v := .tuple #[]) (results_none rfl _ _ _) rfl ⟨rfl, HX.out⟩
end Go.Proofs.YtdooopkpnanekaaGreatDoor
/-
  A store whose meant entries are soft, by the program.
-/
namespace Go.Proofs.YtdooopkpnanekaaGreatDoor
open Go.ChangeShapes Go.WideShapes Go.ChangeAt Go.RowKit Go.Sort
/-- The first k entries are turned. -/
def turnP (p : Ent → Bool) (f : Ent → Ent) (k : Nat) (m : List (Ent × EntR)) : List (Ent × EntR) := turnM p f (m.take k) ++ m.drop k
theorem turnP_zero (p : Ent → Bool) (f : Ent → Ent) (m : List (Ent × EntR)) : turnP p f 0 m = m := by simp [turnP, turnM]
theorem turnP_all {p : Ent → Bool} {f : Ent → Ent} {k : Nat} {m : List (Ent × EntR)} (h : m.length ≤ k) : turnP p f k m = turnM p f m := by unfold turnP; rw [List.take_of_length_le h, List.drop_of_length_le h, List.append_nil]
theorem turnP_at {p : Ent → Bool} {f : Ent → Ent} {k : Nat} {m : List (Ent × EntR)} {q : Ent × EntR} (h : m[k]? = some q) : turnP p f k m = turnM p f (m.take k) ++ (q.1, q.2) :: m.drop (k + 1) ∧ (turnM p f (m.take k)).length = k ∧ turnP p f (k + 1) m = turnM p f (m.take k) ++ (if p q.1 then f q.1 else q.1, q.2) :: m.drop (k + 1) := by
  obtain ⟨hk, e⟩ := List.getElem?_eq_some_iff.1 h
  refine ⟨?_, by rw [turnM_len, List.length_take]; omega, ?_⟩
  · unfold turnP; rw [List.drop_eq_getElem_cons hk, e]
  · unfold turnP
    rw [take_next h]
    unfold turnM
    rw [List.map_append]
    simp
theorem fp_turnP (v : Value) (p : Ent → Bool) (f : Ent → Ent) (k : Nat) (m : List (Ent × EntR)) : fp v (turnP p f k m) = fp v m := by
  unfold fp turnP
  rw [foot_app, foot_turnM, ← foot_app, List.take_append_drop]
theorem mid_at {α : Type} {A B : List α} {y : α} {k : Nat} (h : A.length = k) : (A ++ y :: B)[k]? = some y := by subst h; exact mid_eq _ _ _
/-- One step: the k-th of all entries is turned, if it is meant. -/
theorem soft_step {X : World} {base n1 k1 n2 k2 : Nat} {a1 a2 : Option Addr} {m1 m2 : List (Ent × EntR)} {p : Ent → Bool} {k : Nat} {h : Hdl} (hs : StoLV X base (.slice a1 n1 k1) (.slice a2 n2 k2) (turnP p softE k m1) (turnP p softE (k - m1.length) m2)) (hh : (hdl2 a1 a2 m1 m2)[k]? = some h) :
    HThere X h ∧ X.cell? ⟨h.b, h.o + 9, none⟩ = some (.bool h.x.b1) ∧ X.frozen? ⟨h.b, h.o + 9, none⟩ = false ∧ base ≤ h.b ∧ (h.b ∈ fp (.slice a1 n1 k1) m1 ∨ h.b ∈ fp (.slice a2 n2 k2) m2) ∧ (p h.x = false → StoLV X base (.slice a1 n1 k1) (.slice a2 n2 k2) (turnP p softE (k + 1) m1) (turnP p softE (k + 1 - m1.length) m2)) ∧ (p h.x = true → StoLV (X.setCell ⟨h.b, h.o + 9, none⟩ (.bool true)) base (.slice a1 n1 k1) (.slice a2 n2 k2) (turnP p softE (k + 1) m1) (turnP p softE (k + 1 - m1.length) m2)) := by
  have split : (k < m1.length ∧ (hdlsA a1 m1)[k]? = some h) ∨ (m1.length ≤ k ∧ (hdlsA a2 m2)[k - m1.length]? = some h) := by
    unfold hdl2 at hh
    by_cases c : k < m1.length
    · rw [List.getElem?_append_left (by rw [hdlsA_len]; exact c)] at hh; exact .inl ⟨c, hh⟩
    · rw [List.getElem?_append_right (by rw [hdlsA_len]; omega), hdlsA_len] at hh; exact .inr ⟨by omega, hh⟩
  have loc : ∀ {a : Option Addr} {n c j : Nat} {m M : List (Ent × EntR)}, EntsLV X base (.slice a n c) M → M.length = m.length → (hdlsA a m)[j]? = some h → ∃ G, a = some ⟨G, 0, none⟩ ∧ m[j]? = some (h.x, h.r) ∧ h.b = G ∧ h.o = j * 13 := fun {a n c j m M} he hl hj => by
    rcases he.form with ⟨_, e⟩ | ⟨G, c', e, _⟩
    · have : m = [] := by rw [e] at hl; exact List.eq_nil_of_length_eq_zero (by simpa using hl.symm)
      subst this
      rw [List.getElem?_eq_none (by rw [hdlsA_len]; simp)] at hj
      cases hj
    · simp only [Value.slice.injEq] at e
      obtain ⟨rfl, _⟩ := e
      simp only [hdlsA] at hj
      unfold hdls at hj
      rw [List.getElem?_mapIdx] at hj
      obtain ⟨q, hq, rfl⟩ := Option.map_eq_some_iff.1 hj
      exact ⟨G, rfl, hq, rfl, by simp⟩
  have tlen : ∀ (k : Nat) (m : List (Ent × EntR)), (turnP p softE k m).length = m.length := fun k m => by unfold turnP; rw [List.length_append, turnM_len, ← List.length_append, List.take_append_drop]
  rcases split with ⟨hk, hj⟩ | ⟨hk, hj⟩
  · obtain ⟨G, rfl, hq, hb, ho⟩ := loc hs.t (tlen _ _) hj
    obtain ⟨t1, t2, t3⟩ := turnP_at (p := p) (f := softE) hq
    simp only at t1 t3
    have z := hs.t.at
    rw [t1] at z
    have cells := z.2.2.2.2.1 k (h.x, h.r) (mid_at t2)
    have hrow := hs.t.rows (h.x, h.r) (by rw [t1]; simp)
    rw [hb, ho]
    have e0 : k - m1.length = 0 := by omega
    have e1 : k + 1 - m1.length = 0 := by omega
    refine ⟨⟨fun j hj' => by rw [hb, ho]; exact cells j hj', hrow.in⟩, cells 9 (by omega), z.2.2.2.2.2 _, z.2.2.1, .inl (by simp [fp, Value.ownBlock]), fun hp => ?_, fun hp => ?_⟩
    · rw [t3, hp, e1]
      have := hs
      rw [t1, e0] at this
      simpa using this
    · rw [t3, hp, e1]
      have hs' := hs
      rw [t1, e0] at hs'
      exact hs'.setT t2 9 (by omega) (.bool true) (softE h.x) rfl rfl rfl rfl
  · obtain ⟨G, rfl, hq, hb, ho⟩ := loc hs.k (tlen _ _) hj
    obtain ⟨t1, t2, t3⟩ := turnP_at (p := p) (f := softE) hq
    simp only at t1 t3
    have z := hs.k.at
    rw [t1] at z
    have cells := z.2.2.2.2.1 (k - m1.length) (h.x, h.r) (mid_at t2)
    have hrow := hs.k.rows (h.x, h.r) (by rw [t1]; simp)
    rw [hb, ho]
    have e1 : k + 1 - m1.length = k - m1.length + 1 := by omega
    have e2 : turnP p softE (k + 1) m1 = turnP p softE k m1 := by rw [turnP_all (by omega), turnP_all (by omega)]
    refine ⟨⟨fun j hj' => by rw [hb, ho]; exact cells j hj', hrow.in⟩, cells 9 (by omega), z.2.2.2.2.2 _, z.2.2.1, .inr (by simp [fp, Value.ownBlock]), fun hp => ?_, fun hp => ?_⟩
    · rw [e2, e1, t3, hp]
      have := hs
      rw [t1] at this
      simpa using this
    · rw [e2, e1, t3, hp]
      have hs' := hs
      rw [t1] at hs'
      exact hs'.setK t2 9 (by omega) (.bool true) (softE h.x) rfl rfl rfl rfl
/-- Behind the first step: a store told anew, in a variable. -/
structure SfCut (W : World) (bu gu : Int) (tl kl : List Ent) (T lo : Nat) (a1 a2 : Option Addr) (k1 n1 k2 n2 : Nat) (m1 m2 : List (Ent × EntR)) (X : World) : Prop where
  b : Below W.heap.size W X
  s : S4 X T (.int .i64 bu) (.int .i64 gu) (.slice a1 n1 k1) (.slice a2 n2 k2)
  o : StoLV X lo (.slice a1 n1 k1) (.slice a2 n2 k2) m1 m2
  t1 : T ∉ fp (.slice a1 n1 k1) m1
  t2 : T ∉ fp (.slice a2 n2 k2) m2
  lo1 : W.heap.size ≤ lo
  lo2 : lo ≤ X.heap.size
  e1 : m1.map Prod.fst = tl
  e2 : m2.map Prod.fst = kl
theorem SfCut.put {W wb : World} {bu gu : Int} {tl kl : List Ent} {T lo : Nat} {a1 a2 : Option Addr} {k1 n1 k2 n2 : Nat} {m1 m2 : List (Ent × EntR)} {z0 z1 z2 z3 : Value} (b : Below W.heap.size W wb) (s : S4 wb T z0 z1 z2 z3) (o : StoLV wb lo (.slice a1 n1 k1) (.slice a2 n2 k2) m1 m2) (t1 : T ∉ fp (.slice a1 n1 k1) m1) (t2 : T ∉ fp (.slice a2 n2 k2) m2) (hT : W.heap.size ≤ T) (lo1 : W.heap.size ≤ lo) (lo2 : lo ≤ wb.heap.size) (e1 : m1.map Prod.fst = tl) (e2 : m2.map Prod.fst = kl) :
    SfCut W bu gu tl kl T lo a1 a2 k1 n1 k2 n2 m1 m2 ((((wb.setCell ⟨T, 0, none⟩ (.int .i64 bu)).setCell ⟨T, 1, none⟩ (.int .i64 gu)).setCell ⟨T, 2, none⟩ (.slice a1 n1 k1)).setCell ⟨T, 3, none⟩ (.slice a2 n2 k2)) := by
  have off : ∀ {X : World} {i : Nat} {u : Value}, StoLV X lo (.slice a1 n1 k1) (.slice a2 n2 k2) m1 m2 → StoLV (X.setCell ⟨T, i, none⟩ u) lo (.slice a1 n1 k1) (.slice a2 n2 k2) m1 m2 := fun {X i u} h => h.out (Out.set X T i u) (fun c hc e => by simp at hc; subst hc; exact t1 e) (fun c hc e => by simp at hc; subst hc; exact t2 e)
  exact ⟨(((b.setCell hT _).setCell hT _).setCell hT _).setCell hT _, (((s.set0 _).set1 _).set2 _).set3 _, off (off (off (off o))), t1, t2, lo1, by simpa using lo2, e1, e2⟩
set_option maxRecDepth 100000 in
set_option maxHeartbeats 16000000 in
theorem softened_any (w : World) (B0 g : Nat) (lb : Array Value) (p : Ent → Bool) (C : World → Prop) (bu gu : Int) (ta ka : Option Addr) (tc kc : Nat) (tl kl : List (Ent × EntR)) (hS : StoOk w ta ka tl kl) (PF : PredF B0 g lb p C) (hC : C w) (hB0 : B0 ≤ w.heap.size) :
    Calls Tryz.prog 159 #[.agg #[.int .i64 bu, .int .i64 gu, .slice ta tl.length tc, .slice ka kl.length kc], .func (.func g) #[] lb] w fun e w' => (∃ a1 k1 n1 a2 k2 n2 m1 m2, e = .returned (.agg #[.int .i64 bu, .int .i64 gu, .slice a1 n1 k1, .slice a2 n2 k2]) ∧ m1.map Prod.fst = turnE p softE (tl.map Prod.fst) ∧ m2.map Prod.fst = turnE p softE (kl.map Prod.fst) ∧ StoLV w' w.heap.size (.slice a1 n1 k1) (.slice a2 n2 k2) m1 m2) ∧ Below w.heap.size w w' := by
  have hn := hS.n
  have HTL : Hid (∀ x ∈ tl.map Prod.fst ++ kl.map Prod.fst, x.ts.length ≤ 1048576) := fun x hx => by
    rw [← hdl2_x ta ka] at hx
    obtain ⟨h, hh, rfl⟩ := List.mem_map.1 hx
    exact (entC_sizes (hS.z h hh)).2
  have HPF : Hid (PredF B0 g lb p C ∧ C w ∧ B0 ≤ w.heap.size) := ⟨PF, hC, hB0⟩
  have eg := PF.eg
  obtain ⟨W, hW⟩ : ∃ W, W = (w.alloc (.cells #[.int .i64 bu, .int .i64 gu, .slice ta tl.length tc, .slice ka kl.length kc] 28)).alloc (.cells #[.int .i64 0, .int .i64 0, .slice none 0 0, .slice none 0 0] 28) := ⟨_, rfl⟩
  have HW : Hid (W = (w.alloc (.cells #[.int .i64 bu, .int .i64 gu, .slice ta tl.length tc, .slice ka kl.length kc] 28)).alloc (.cells #[.int .i64 0, .int .i64 0, .slice none 0 0, .slice none 0 0] 28)) := hW
  have K0 : Hid (Below w.heap.size w W ∧ S4 W w.heap.size (.int .i64 bu) (.int .i64 gu) (.slice ta tl.length tc) (.slice ka kl.length kc) ∧ S4 W (w.heap.size + 1) (.int .i64 0) (.int .i64 0) (.slice none 0 0) (.slice none 0 0) ∧ W.heap.size = w.heap.size + 2) := by
    rw [hW]
    refine ⟨((Below.refl _ _).alloc (Nat.le_refl _) _).alloc (by simp) _, (S4.new w _ _ _ _ _).keep ((Below.refl _ _).alloc (Nat.le_refl _) _), ?_, by simp⟩
    have := S4.new (w.alloc (.cells #[.int .i64 bu, .int .i64 gu, .slice ta tl.length tc, .slice ka kl.length kc] 28)) (.int .i64 0) (.int .i64 0) (.slice none 0 0) (.slice none 0 0) 28
    simpa using this
  have CS : Hid (∀ X, Below w.heap.size w X → Calls Tryz.prog 56 #[.agg #[.int .i64 bu, .int .i64 gu, .slice ta tl.length tc, .slice ka kl.length kc]] X fun e w' => (∃ a1 c1 d1 a2 c2 d2, e = .returned (.agg #[.slice a1 c1 d1, .slice a2 c2 d2]) ∧ TwoP w' X.heap.size (.slice a1 c1 d1) (.slice a2 c2 d2) (hdlsA ta tl) (hdlsA ka kl)) ∧ Below X.heap.size X w') := fun X hX => by
    refine (shelvesOf_any X bu gu ta ka tc kc tl kl (by omega) (by omega) (hS.t.keep hX) (hS.k.keep hX)).mono ?_
    rintro e w' ⟨⟨v1, v2, rfl, h2⟩, hb'⟩
    obtain ⟨a1, d1, rfl, _⟩ := h2.a.form
    obtain ⟨a2, d2, rfl, _⟩ := h2.b.form
    exact ⟨⟨a1, _, d1, a2, _, d2, rfl, h2⟩, hb'⟩
  have HSL : Hid (∀ X v1 v2 base, Below w.heap.size w X → TwoP X base v1 v2 (hdlsA ta tl) (hdlsA ka kl) → Calls Tryz.prog 60 #[.agg #[v1, v2], .agg #[.int .i64 bu, .int .i64 gu, .slice ta tl.length tc, .slice ka kl.length kc]] X fun e w' => (∃ a1 k1 n1 a2 k2 n2 m1 m2, e = .returned (.agg #[.int .i64 bu, .int .i64 gu, .slice a1 n1 k1, .slice a2 n2 k2]) ∧ m1.map Prod.fst = tl.map Prod.fst ∧ m2.map Prod.fst = kl.map Prod.fst ∧ StoLV w' X.heap.size (.slice a1 n1 k1) (.slice a2 n2 k2) m1 m2) ∧ Below X.heap.size X w') := fun X v1 v2 base hb h => by
    refine (storeLike_any X v1 v2 base _ _ bu gu ta ka tc kc tl.length kl.length h (by rw [hdlsA_len, hdlsA_len]; omega) (fun x hx => (hdl2_there hS.t hS.k x hx).keep hb) (fun x hx => hS.z x hx) (fun x hx => hS.ts x hx)).mono ?_
    rintro e w' ⟨⟨a1, k1, n1, a2, k2, n2, m1, m2, rfl, q1, q2, o⟩, hb'⟩
    exact ⟨⟨a1, k1, n1, a2, k2, n2, m1, m2, rfl, by rw [q1, hdlsA_x], by rw [q2, hdlsA_x], o.lv⟩, hb'⟩
  have HLN : Hid (tl.length + kl.length ≤ 40) := hn
  have HKW : Hid (∀ X, Below W.heap.size W X → Below w.heap.size w X ∧ S4 X w.heap.size (.int .i64 bu) (.int .i64 gu) (.slice ta tl.length tc) (.slice ka kl.length kc) ∧ S4 X (w.heap.size + 1) (.int .i64 0) (.int .i64 0) (.slice none 0 0) (.slice none 0 0) ∧ w.heap.size + 2 ≤ W.heap.size) := fun X hX => ⟨K0.out.1.trans (hX.mono K0.out.1.size), K0.out.2.1.keep hX, K0.out.2.2.1.keep hX, by have := K0.out.2.2.2; omega⟩
  clear hW hS PF hC hB0 K0 hn
  have HL1 : Hid (∀ m1 m2 : List (Ent × EntR), m1.map Prod.fst = tl.map Prod.fst → m2.map Prod.fst = kl.map Prod.fst → m1.length + m2.length ≤ 40) := fun m1 m2 q1 q2 => by
    have l1 := congrArg List.length q1
    have l2 := congrArg List.length q2
    simp at l1 l2
    have := HLN.out
    omega
  generalize tl.length = tn at *
  generalize kl.length = kn at *
  have HKS : Hid (∀ X, Below W.heap.size W X → (X.cell? ⟨w.heap.size, 0, none⟩ = some (.int .i64 bu) ∧ X.cell? ⟨w.heap.size, 1, none⟩ = some (.int .i64 gu) ∧ X.cell? ⟨w.heap.size, 2, none⟩ = some (.slice ta tn tc) ∧ X.cell? ⟨w.heap.size, 3, none⟩ = some (.slice ka kn kc))) := fun X hX => ⟨(HKW.out X hX).2.1.c0, (HKW.out X hX).2.1.c1, (HKW.out X hX).2.1.c2, (HKW.out X hX).2.1.c3⟩
  have HKA : Hid (∀ X o, Below W.heap.size W X → ((X.alloc o).cell? ⟨w.heap.size, 0, none⟩ = some (.int .i64 bu) ∧ (X.alloc o).cell? ⟨w.heap.size, 1, none⟩ = some (.int .i64 gu) ∧ (X.alloc o).cell? ⟨w.heap.size, 2, none⟩ = some (.slice ta tn tc) ∧ (X.alloc o).cell? ⟨w.heap.size, 3, none⟩ = some (.slice ka kn kc))) := fun X o hX => HKS.out _ (hX.alloc hX.size o)
  have HKT : Hid (∀ X T u0 u1 u2 u3, W.heap.size ≤ T → Below W.heap.size W X → (((((X.setCell ⟨T, 0, none⟩ u0).setCell ⟨T, 1, none⟩ u1).setCell ⟨T, 2, none⟩ u2).setCell ⟨T, 3, none⟩ u3).cell? ⟨w.heap.size, 0, none⟩ = some (.int .i64 bu) ∧ ((((X.setCell ⟨T, 0, none⟩ u0).setCell ⟨T, 1, none⟩ u1).setCell ⟨T, 2, none⟩ u2).setCell ⟨T, 3, none⟩ u3).cell? ⟨w.heap.size, 1, none⟩ = some (.int .i64 gu) ∧ ((((X.setCell ⟨T, 0, none⟩ u0).setCell ⟨T, 1, none⟩ u1).setCell ⟨T, 2, none⟩ u2).setCell ⟨T, 3, none⟩ u3).cell? ⟨w.heap.size, 2, none⟩ = some (.slice ta tn tc) ∧ ((((X.setCell ⟨T, 0, none⟩ u0).setCell ⟨T, 1, none⟩ u1).setCell ⟨T, 2, none⟩ u2).setCell ⟨T, 3, none⟩ u3).cell? ⟨w.heap.size, 3, none⟩ = some (.slice ka kn kc))) := fun X T u0 u1 u2 u3 hT hX => HKS.out _ ((((hX.setCell hT _).setCell hT _).setCell hT _).setCell hT _)
  have B0' : Hid (Below W.heap.size W W.drew) := (Below.refl _ _).drew
  have BZ : Hid (Below W.heap.size W ((W.alloc (.cells #[.int .i64 0, .int .i64 0, .slice none 0 0, .slice none 0 0] 28)).drew) ∧ S4 ((W.alloc (.cells #[.int .i64 0, .int .i64 0, .slice none 0 0, .slice none 0 0] 28)).drew) W.heap.size (.int .i64 0) (.int .i64 0) (.slice none 0 0) (.slice none 0 0) ∧ W.heap.size + 1 ≤ ((W.alloc (.cells #[.int .i64 0, .int .i64 0, .slice none 0 0, .slice none 0 0] 28)).drew).heap.size) := ⟨((Below.refl _ _).alloc (Nat.le_refl _) _).drew, (S4.new W _ _ _ _ _).keep ((Below.refl _ _).drew), by simp [World.drew]⟩
  have HNA : Hid (∀ X : World, S4 (X.alloc (.cells #[.int .i64 0, .int .i64 0, .slice none 0 0, .slice none 0 0] 28)) X.heap.size (.int .i64 0) (.int .i64 0) (.slice none 0 0) (.slice none 0 0) ∧ X.heap.size + 1 = (X.alloc (.cells #[.int .i64 0, .int .i64 0, .slice none 0 0, .slice none 0 0] 28)).heap.size) := fun X => ⟨S4.new X _ _ _ _ _, by simp⟩
  go_enter Tryz.func159, Tryz.ntmps159
  go_upto_region 1 with fail
  rw [← HW.out]
  clear HW
  go_cut [5] from 8 to 11 (fun s5 wx => ∃ T lo b1 b2 k1 n1 k2 n2 m1 m2, s5 = .pointer (some ⟨T, 0, none⟩) ∧ SfCut W bu gu (tl.map Prod.fst) (kl.map Prod.fst) T lo b1 b2 k1 n1 k2 n2 m1 m2 wx)
  case first =>
    go_region_held3 (fun X => X.cell? ⟨w.heap.size, 0, none⟩ = some (.int .i64 bu) ∧ X.cell? ⟨w.heap.size, 1, none⟩ = some (.int .i64 gu) ∧ X.cell? ⟨w.heap.size, 2, none⟩ = some (.slice ta tn tc) ∧ X.cell? ⟨w.heap.size, 3, none⟩ = some (.slice ka kn kc))
      (first | ((with_reducible refine HKS.out _ ?_); (with_reducible exact BB.out)) | ((with_reducible refine HKS.out _ ?_); (with_reducible exact BA.out)) | ((with_reducible refine HKS.out _ ?_); (with_reducible exact BZ.out.1)) | ((with_reducible refine HKS.out _ ?_); (with_reducible exact B0'.out)) | ((with_reducible refine HKA.out _ _ ?_); (with_reducible exact BB.out)) | ((with_reducible refine HKA.out _ _ ?_); (with_reducible exact BA.out)) | ((with_reducible refine HKA.out _ _ ?_); (with_reducible exact B0'.out)) | ((with_reducible refine HKT.out _ _ _ _ _ _ ?_ ?_); (first | exact Nat.le_refl _ | exact BA.out.size | exact BB.out.size); (first | (with_reducible exact BB.out) | exact BB.out.alloc BB.out.size _)))
      (first
      | (go_at_call 60; (with_reducible refine (HSL.out wa _ _ W.heap.size ?_ ?_).mono ?_); (exact (HKW.out _ BA.out).1); (exact TP.out); rintro r0 wb ⟨⟨b1, k1, n1, b2, k2, n2, m1, m2, rfl, q1, q2, o⟩, hbb⟩; have BB : Hid (Below W.heap.size W wb) := BA.out.trans (hbb.mono BA.out.size); have OA : Hid (StoLV wb wa.heap.size (.slice b1 n1 k1) (.slice b2 n2 k2) m1 m2 ∧ m1.map Prod.fst = tl.map Prod.fst ∧ m2.map Prod.fst = kl.map Prod.fst ∧ Below wa.heap.size wa wb) := ⟨o, q1, q2, hbb⟩; clear o q1 q2 hbb; try (obtain ⟨z0, z1, z2, z3, zf, _⟩ := SA.out.keep OA.out.2.2.2; have zf0 := zf 0; have zf1 := zf 1; have zf2 := zf 2; have zf3 := zf 3; clear zf))
      | (go_at_call 60; (with_reducible refine (HSL.out (wa.alloc (.cells #[.int .i64 0, .int .i64 0, .slice none 0 0, .slice none 0 0] 28)) _ _ W.heap.size ?_ ?_).mono ?_); (exact (HKW.out _ (BA.out.alloc BA.out.size _)).1); (exact TP.out.below ((Below.refl _ _).alloc (Nat.le_refl _) _)); rintro r0 wb ⟨⟨b1, k1, n1, b2, k2, n2, m1, m2, rfl, q1, q2, o⟩, hbb⟩; have BB : Hid (Below W.heap.size W wb) := (BA.out.alloc BA.out.size _).trans (hbb.mono (BA.out.alloc BA.out.size _).size); have OB : Hid (StoLV wb (wa.alloc (.cells #[.int .i64 0, .int .i64 0, .slice none 0 0, .slice none 0 0] 28)).heap.size (.slice b1 n1 k1) (.slice b2 n2 k2) m1 m2 ∧ m1.map Prod.fst = tl.map Prod.fst ∧ m2.map Prod.fst = kl.map Prod.fst ∧ Below (wa.alloc (.cells #[.int .i64 0, .int .i64 0, .slice none 0 0, .slice none 0 0] 28)).heap.size (wa.alloc (.cells #[.int .i64 0, .int .i64 0, .slice none 0 0, .slice none 0 0] 28)) wb ∧ S4 wb wa.heap.size (.int .i64 0) (.int .i64 0) (.slice none 0 0) (.slice none 0 0)) := ⟨o, q1, q2, hbb, (HNA.out wa).1.keep hbb⟩; clear o q1 q2 hbb; obtain ⟨z0, z1, z2, z3, zf, _⟩ := OB.out.2.2.2.2; have zf0 := zf 0; have zf1 := zf 1; have zf2 := zf 2; have zf3 := zf 3; clear zf)
      | (go_at_call 56; (with_reducible refine (CS.out W.drew ?_).mono ?_); (exact (HKW.out _ B0'.out).1); rintro r0 wa ⟨⟨a1, c1, d1, a2, c2, d2, rfl, tp⟩, hba⟩; have BA : Hid (Below W.heap.size W wa) := B0'.out.trans (hba.mono B0'.out.size); have TP : Hid (TwoP wa W.heap.size (.slice a1 c1 d1) (.slice a2 c2 d2) (hdlsA ta tl) (hdlsA ka kl)) := tp; clear hba tp)
      | (go_at_call 56; (with_reducible refine (CS.out ((W.alloc (.cells #[.int .i64 0, .int .i64 0, .slice none 0 0, .slice none 0 0] 28)).drew) ?_).mono ?_); (exact (HKW.out _ BZ.out.1).1); rintro r0 wa ⟨⟨a1, c1, d1, a2, c2, d2, rfl, tp⟩, hba⟩; have BA : Hid (Below W.heap.size W wa) := BZ.out.1.trans (hba.mono BZ.out.1.size); have TP : Hid (TwoP wa W.heap.size (.slice a1 c1 d1) (.slice a2 c2 d2) (hdlsA ta tl) (hdlsA ka kl)) := tp.lower BZ.out.1.size; have SA : Hid (S4 wa W.heap.size (.int .i64 0) (.int .i64 0) (.slice none 0 0) (.slice none 0 0)) := BZ.out.2.1.keep hba; have SZ : Hid (W.heap.size + 1 ≤ wa.heap.size) := Nat.le_trans BZ.out.2.2 hba.size; clear hba tp)
      | (go_at_call 60; trace_state; fail))
    all_goals go_wp2_with fail
    all_goals go_meet
    all_goals first
      | exact ⟨W.heap.size, wa.heap.size, b1, b2, k1, n1, k2, n2, m1, m2, rfl, SfCut.put BB.out (SA.out.keep OA.out.2.2.2) OA.out.1 (fun h => by have := OA.out.1.t.ge h; have := SZ.out; omega) (fun h => by have := OA.out.1.k.ge h; have := SZ.out; omega) (Nat.le_refl _) BA.out.size OA.out.2.2.2.size OA.out.2.1 OA.out.2.2.1⟩
      | exact ⟨wa.heap.size, _, b1, b2, k1, n1, k2, n2, m1, m2, rfl, SfCut.put BB.out OB.out.2.2.2.2 OB.out.1 (fun h => by have := OB.out.1.t.ge h; have := (HNA.out wa).2; omega) (fun h => by have := OB.out.1.k.ge h; have := (HNA.out wa).2; omega) BA.out.size (by have := BA.out.size; have := (HNA.out wa).2; omega) OB.out.2.2.2.1.size OB.out.2.1 OB.out.2.2.1⟩
      | exact ⟨wb.heap.size, wa.heap.size, b1, b2, k1, n1, k2, n2, m1, m2, rfl, ⟨BB.out.alloc BB.out.size _, S4.new wb _ _ _ _ _, OA.out.1.below ((Below.refl _ _).alloc (Nat.le_refl _) _), (fun h => by have := OA.out.1.t.lt h; omega), (fun h => by have := OA.out.1.k.lt h; omega), BA.out.size, (by have := OA.out.2.2.2.size; simp; omega), OA.out.2.1, OA.out.2.2.1⟩⟩
  case rest =>
  obtain ⟨T, lo, b1, b2, k1, n1, k2, n2, m1, m2, rfl, hcut⟩ := hcut
  generalize wc = V at *
  obtain ⟨hn1, i1⟩ := slice_len hcut.o.t
  obtain ⟨hn2, i2⟩ := slice_len hcut.o.k
  subst hn1 hn2
  have hml := HL1.out m1 m2 hcut.e1 hcut.e2
  have CS2 : Hid (Calls Tryz.prog 56 #[.agg #[.int .i64 bu, .int .i64 gu, .slice b1 m1.length k1, .slice b2 m2.length k2]] V fun e w' => (∃ a1 c1 d1 a2 c2 d2, e = .returned (.agg #[.slice a1 c1 d1, .slice a2 c2 d2]) ∧ TwoP w' V.heap.size (.slice a1 c1 d1) (.slice a2 c2 d2) (hdlsA b1 m1) (hdlsA b2 m2)) ∧ Below V.heap.size V w') := by
    refine (shelvesOf_any V bu gu b1 b2 k1 k2 m1 m2 (by omega) (by omega) i1 i2).mono ?_
    rintro e w' ⟨⟨v1, v2, rfl, h2⟩, hb'⟩
    obtain ⟨a1, d1, rfl, _⟩ := h2.a.form
    obtain ⟨a2, d2, rfl, _⟩ := h2.b.form
    exact ⟨⟨a1, _, d1, a2, _, d2, rfl, h2⟩, hb'⟩
  have CAL : Hid (∀ X v1 v2 base, TwoP X base v1 v2 (hdlsA b1 m1) (hdlsA b2 m2) → Calls Tryz.prog 87 #[.agg #[v1, v2]] X fun e w' => (∃ a n c, e = .returned (.slice a n c) ∧ n = m1.length + m2.length ∧ OwnP w' X.heap.size (.slice a n c) (hdl2 b1 b2 m1 m2)) ∧ Below X.heap.size X w') := fun X v1 v2 base h => by
    refine (shAll_any X v1 v2 base _ _ h (by rw [hdlsA_len, hdlsA_len]; omega)).mono ?_
    rintro e w' ⟨⟨v, rfl, ho⟩, hb'⟩
    obtain ⟨a, c, rfl, _⟩ := ho.form
    exact ⟨⟨a, _, c, rfl, by rw [List.length_append, hdlsA_len, hdlsA_len], ho⟩, hb'⟩
  have HCT : Hid (SfCut W bu gu (tl.map Prod.fst) (kl.map Prod.fst) T lo b1 b2 k1 m1.length k2 m2.length m1 m2 V) := hcut
  have HML : Hid (m1.length + m2.length ≤ 40) := hml
  have e0 := hcut.s.c0
  have e1 := hcut.s.c1
  have e2 := hcut.s.c2
  have e3 := hcut.s.c3
  clear hcut i1 i2 HKS HKA HKT B0' BZ HNA CS HSL HL1 HLN
  have hmk : m1.length ≤ 40 ∧ m2.length ≤ 40 := by omega
  obtain ⟨M1, hM1⟩ : ∃ n, m1.length = n := ⟨_, rfl⟩
  obtain ⟨M2, hM2⟩ : ∃ n, m2.length = n := ⟨_, rfl⟩
  have HMN : Hid (m1.length = M1 ∧ m2.length = M2) := ⟨hM1, hM2⟩
  rw [hM1, hM2] at HCT CS2 CAL HML hml hmk
  rw [hM1] at e2
  rw [hM2] at e3
  clear hM1 hM2
  go_wp2_with fail
  refine CS2.out.mono ?_
  rintro r0 w2 ⟨⟨a1, c1, d1, a2, c2, d2, rfl, tp⟩, hb2⟩
  have CA := CAL.out w2 _ _ _ tp
  have HB2 : Hid (Below V.heap.size V w2) := hb2
  clear CS2 CAL tp hb2 e0 e1 e2 e3
  go_wp2_with fail
  refine CA.mono ?_
  rintro r0 w3 ⟨⟨av, n, ac, rfl, hnn, ho⟩, hb3⟩
  have HB3 : Hid (Below V.heap.size V w3) := HB2.out.trans (hb3.mono HB2.out.size)
  have HST : Hid (StoLV w3 lo (.slice b1 M1 k1) (.slice b2 M2 k2) (turnP p softE 0 m1) (turnP p softE (0 - m1.length) m2)) := by
    rw [Nat.zero_sub, turnP_zero, turnP_zero]
    exact HCT.out.o.below HB3.out
  have HAL : Hid (∀ X, Out (fp (.slice b1 M1 k1) m1 ++ fp (.slice b2 M2 k2) m2) w3 X → ∀ (k : Nat) h, (hdl2 b1 b2 m1 m2)[k]? = some h → ∃ g, av = some ⟨g, 0, none⟩ ∧ X.cell? ⟨g, k, none⟩ = some (.pointer (some ⟨h.b, h.o, none⟩))) := fun X hX k h hk => by
    obtain ⟨va', vc', e0, _, hf⟩ := ho.form
    simp only [Value.slice.injEq] at e0
    obtain ⟨rfl, _, rfl⟩ := e0
    rcases hf with e | ⟨g, e, hge, hg, hc⟩
    · rw [e] at hk; simp at hk
    · refine ⟨g, e, ?_⟩
      rw [hX.cell g k hg (fun hm => ?_)]
      · exact hc k h hk
      · have hv := HB2.out.size
        rcases List.mem_append.1 hm with hm | hm
        · have := HCT.out.o.t.lt hm; omega
        · have := HCT.out.o.k.lt hm; omega
  have HLEN : Hid ((hdl2 b1 b2 m1 m2).length = n) := by
    show _ = _
    unfold hdl2
    rw [List.length_append, hdlsA_len, hdlsA_len, HMN.out.1, HMN.out.2, hnn]
  clear hb3 ho CA HB2
  go_wp2_with fail
  go_loopw [16] (fun i wr => ∃ k : Nat, k ≤ n ∧ i = .int .i64 (k : Int) ∧ StoLV wr lo (.slice b1 M1 k1) (.slice b2 M2 k2) (turnP p softE k m1) (turnP p softE (k - m1.length) m2) ∧ Out (fp (.slice b1 M1 k1) m1 ++ fp (.slice b2 M2 k2) m2) w3 wr ∧ Below lo w3 wr) (fun i _ => n - (intOf i).toNat)
  case atStart => exact ⟨0, Nat.zero_le _, rfl, HST.out, Out.refl _ _, Below.refl _ _⟩
  case round =>
    obtain ⟨k, hk, rfl, hs, hou, hb⟩ := hrel
    clear HST
    have HWW : Hid (∀ X, Below lo w3 X → Below w.heap.size w X ∧ S4 X (w.heap.size + 1) (.int .i64 0) (.int .i64 0) (.slice none 0 0) (.slice none 0 0) ∧ w.heap.size + 1 < lo) := fun X hX => by
      have b1 := HCT.out.b.trans (HB3.out.mono HCT.out.b.size)
      have hl := HCT.out.lo1
      obtain ⟨q1, _, q2, q3⟩ := HKW.out w3 b1
      refine ⟨q1.trans (hX.mono (by omega)), ⟨by rw [hX.cell (p := ⟨w.heap.size + 1, 0, none⟩) (by simp only; omega)]; exact q2.c0, by rw [hX.cell (p := ⟨w.heap.size + 1, 1, none⟩) (by simp only; omega)]; exact q2.c1, by rw [hX.cell (p := ⟨w.heap.size + 1, 2, none⟩) (by simp only; omega)]; exact q2.c2, by rw [hX.cell (p := ⟨w.heap.size + 1, 3, none⟩) (by simp only; omega)]; exact q2.c3, fun o => by rw [hX.frozen (p := ⟨w.heap.size + 1, o, none⟩) (by simp only; omega)]; exact q2.fr o, Nat.lt_of_lt_of_le q2.lt hX.size⟩, by omega⟩
    by_cases hlt : k < n
    · obtain ⟨h, hr⟩ : ∃ r, (hdl2 b1 b2 m1 m2)[k]? = some r := ⟨(hdl2 b1 b2 m1 m2)[k]'(by have := HLEN.out; omega), List.getElem?_eq_getElem _⟩
      obtain ⟨g', rfl, p1⟩ := HAL.out wr hou k h hr
      have hx : h.x ∈ tl.map Prod.fst ++ kl.map Prod.fst := by
        have : h.x ∈ (hdl2 b1 b2 m1 m2).map Hdl.x := List.mem_map_of_mem (List.mem_of_getElem? hr)
        rw [hdl2_x, HCT.out.e1, HCT.out.e2] at this
        exact this
      have CP := HPF.out.1.call wr h (HPF.out.1.keep _ _ HPF.out.2.1 ((HWW.out wr hb).1.mono HPF.out.2.2)) (soft_step hs hr).1 (HTL.out h.x hx)
      have gk : (k : Int) < n := by omega
      have gk0 : (0 : Int) ≤ k := by omega
      have HNX : Hid (∀ X, Below wr.heap.size wr X → X.cell? ⟨h.b, h.o + 4 + 5, none⟩ = some (.bool h.x.b1) ∧ X.frozen? ⟨h.b, h.o + 4 + 5, none⟩ = false ∧ (p h.x = false → StoLV X lo (.slice b1 M1 k1) (.slice b2 M2 k2) (turnP p softE (k + 1) m1) (turnP p softE (k + 1 - m1.length) m2) ∧ Out (fp (.slice b1 M1 k1) m1 ++ fp (.slice b2 M2 k2) m2) w3 X ∧ Below lo w3 X) ∧ (p h.x = true → StoLV (X.setCell ⟨h.b, h.o + 4 + 5, none⟩ (.bool true)) lo (.slice b1 M1 k1) (.slice b2 M2 k2) (turnP p softE (k + 1) m1) (turnP p softE (k + 1 - m1.length) m2) ∧ Out (fp (.slice b1 M1 k1) m1 ++ fp (.slice b2 M2 k2) m2) w3 (X.setCell ⟨h.b, h.o + 4 + 5, none⟩ (.bool true)) ∧ Below lo w3 (X.setCell ⟨h.b, h.o + 4 + 5, none⟩ (.bool true)))) := fun X hX => by
        have st := soft_step (hs.below hX) hr
        have ouX := hou.trans (Out.below hX)
        have bX := hb.trans (hX.mono (by have := hb.size; have := HB3.out.size; have := HCT.out.lo2; omega))
        refine ⟨st.2.1, st.2.2.1, fun hp => ⟨st.2.2.2.2.2.1 hp, ouX, bX⟩, fun hp => ⟨st.2.2.2.2.2.2 hp, ouX.trans ((Out.set X h.b _ _).mono fun b hm => ?_), bX.setCell st.2.2.2.1 _⟩⟩
        simp at hm
        subst hm
        rcases st.2.2.2.2.1 with h1 | h1
        · exact List.mem_append_left _ h1
        · exact List.mem_append_right _ h1
      clear hs hou hb hr hx HAL HWW
      cases he : p h.x
      · rw [he] at CP
        have HA : Hid _ := fun X hX => (HNX.out X hX).2.2.1 he
        clear HNX he
        go_wp2_with (go_at_fn g; refine CP.mono ?_; rintro e w4 ⟨rfl, hb4⟩)
        go_roundw
        case rel => exact ⟨k + 1, by omega, by go_num, HA.out _ hb4⟩
        case measure => simp [intOf]; omega
      · rw [he] at CP
        have HA : Hid (∀ X, Below wr.heap.size wr X → X.cell? ⟨h.b, h.o + 4 + 5, none⟩ = some (.bool h.x.b1) ∧ X.frozen? ⟨h.b, h.o + 4 + 5, none⟩ = false ∧ _) := fun X hX => ⟨(HNX.out X hX).1, (HNX.out X hX).2.1, (HNX.out X hX).2.2.2 he⟩
        clear HNX he
        go_wp2_with (go_at_fn g; refine CP.mono ?_; rintro e w4 ⟨rfl, hb4⟩; obtain ⟨y9, yf, hnx⟩ := HA.out _ hb4; have HX : Hid _ := hnx; clear hnx)
        go_roundw
        case rel => exact ⟨k + 1, by omega, by go_num, HX.out⟩
        case measure => simp [intOf]; omega
    · have ek : k = n := by omega
      subst ek
      have ml1 := HMN.out.1
      have ml2 := HMN.out.2
      rw [turnP_all (by omega), turnP_all (by omega)] at hs
      have sT : S4 wr T (.int .i64 bu) (.int .i64 gu) (.slice b1 M1 k1) (.slice b2 M2 k2) := by
        have s3 := HCT.out.s.keep HB3.out
        have nT : T ∉ fp (.slice b1 M1 k1) m1 ++ fp (.slice b2 M2 k2) m2 := fun hm => by
          rcases List.mem_append.1 hm with hm | hm
          · exact HCT.out.t1 hm
          · exact HCT.out.t2 hm
        exact ⟨by rw [hou.cell T 0 s3.lt nT]; exact s3.c0, by rw [hou.cell T 1 s3.lt nT]; exact s3.c1, by rw [hou.cell T 2 s3.lt nT]; exact s3.c2, by rw [hou.cell T 3 s3.lt nT]; exact s3.c3, fun o => by rw [hou.frozen T o s3.lt nT]; exact s3.fr o, Nat.lt_of_lt_of_le s3.lt hou.size⟩
      obtain ⟨bw, s4, hlo⟩ := HWW.out wr hb
      have HO : Hid (StoLV wr lo (.slice b1 M1 k1) (.slice b2 M2 k2) (turnM p softE m1) (turnM p softE m2) ∧ w.heap.size + 1 < lo ∧ Below w.heap.size w wr ∧ (turnM p softE m1).map Prod.fst = turnE p softE (tl.map Prod.fst) ∧ (turnM p softE m2).map Prod.fst = turnE p softE (kl.map Prod.fst)) := ⟨hs, hlo, bw, by rw [turnM_fst, HCT.out.e1], by rw [turnM_fst, HCT.out.e2]⟩
      have y0 := sT.c0
      have y1 := sT.c1
      have y2 := sT.c2
      have y3 := sT.c3
      have z0 := s4.c0
      have z1 := s4.c1
      have z2 := s4.c2
      have z3 := s4.c3
      have zf0 := s4.fr 0
      have zf1 := s4.fr 1
      have zf2 := s4.fr 2
      have zf3 := s4.fr 3
      clear s4 sT hs hou hb bw HWW HAL HPF ml1 ml2
      go_wp2_with fail
      refine bodyPost_ret (v := .agg #[.int .i64 bu, .int .i64 gu, .slice b1 M1 k1, .slice b2 M2 k2]) (by simp [results, Tryz.results159, go_sem, z0, z1, z2, z3]) rfl ?_
      obtain ⟨o, hlt, hB, x1, x2⟩ := HO.out
      exact ⟨⟨b1, k1, M1, b2, k2, M2, _, _, rfl, x1, x2, ((((o.off1 _ hlt).off1 _ hlt).off1 _ hlt).off1 _ hlt).lower (by omega)⟩, (((hB.setCell (by simp) _).setCell (by simp) _).setCell (by simp) _).setCell (by simp) _⟩
end Go.Proofs.YtdooopkpnanekaaGreatDoor
/-
  The model's keys of all entries, of one key; purges as a whole, by the model.
-/
namespace Go.Proofs.YtdooopkpnanekaaGreatDoor
open Go.ChangeShapes Go.WideShapes Go.ChangeAt Go.RowKit Go.Sort
def anyP (_ : Ent) : Bool := true
theorem keysP_none {p : Ent → Bool} {L : List Ent} (h : ∀ x ∈ L, p x = false) : keysP p L = [] := by
  unfold keysP
  rw [List.filter_eq_nil_iff.2 (fun x hx => by simp [h x hx])]
  rfl
theorem keysP_key {key : ByteArray} {L : List Ent} {x : Ent} (hn : NdK L) (hx : L.find? (isKey key) = some x) : keysP (isKey key) L = [key] := by
  obtain ⟨hk, A, B, rfl, hA⟩ := List.find?_eq_some_iff_append.1 hx
  have e : x.key = key := by rw [isKey_iff] at hk; simpa using (of_decide_eq_true hk).symm
  have hB : ∀ y ∈ B, isKey key y = false := fun y hy => by
    by_cases c : isKey key y = true
    · have h2 : NdK ([x] ++ B) := (NdK.app hn).2.1
      exact absurd (isKey_eq hk c) ((NdK.app h2).2.2 x (by simp) y hy)
    · simpa using c
  unfold keysP
  rw [List.filter_append, List.filter_cons_of_pos hk, List.filter_eq_nil_iff.2 (fun a ha => by have := hA a ha; simpa using this), List.filter_eq_nil_iff.2 (fun y hy => by simp [hB y hy])]
  simp [e]
theorem RowT.one (w : World) (base : Nat) (t : ByteArray) (hb : base ≤ w.heap.size) : RowT (w.alloc (.cells #[.string t] 9)) base (.slice (some ⟨w.heap.size, 0, none⟩) 1 1) [t] := by
  refine ⟨rfl, .inr ⟨w.heap.size, 1, #[.string t], rfl, hb, heap_alloc_new w _, Nat.le_refl _, by unfold maxLen; omega, rfl, rfl⟩⟩
def resM (hard : Bool) (ks : List ByteArray) (m : List (Ent × EntR)) : List (Ent × EntR) := if hard then offKs ks m else turnM (inK ks) softE m
def resE (hard : Bool) (q : Ent → Bool) (L : List Ent) : List Ent := if hard then L.filter (fun x => !q x) else turnE q softE L
theorem resM_map (hard : Bool) (ks : List ByteArray) (m : List (Ent × EntR)) : (resM hard ks m).map Prod.fst = resE hard (inK ks) (m.map Prod.fst) := by
  cases hard
  · exact turnM_fst _ _ _
  · exact offKs_map _ _
theorem TLV.low {w w' : World} {B : Nat} {v : Value} {l : List ByteArray} (h : TLV w v l) (hb : ∀ b, v.ownBlock = some b → b < B) (k : Below B w w') : TLV w' v l := by
  rcases h with h | ⟨g, c, rfl, hg, hi, hf⟩
  · exact .inl h
  · have hB := hb g rfl
    exact .inr ⟨g, c, rfl, Nat.lt_of_lt_of_le hg k.size, fun i q hq => by rw [k.cell (p := ⟨g, 0 + i, none⟩) hB]; exact hi i q hq, fun o => by rw [k.frozen (p := ⟨g, o, none⟩) hB]; exact hf o⟩
theorem TLV.at_in {w : World} {a : Option Addr} {n c : Nat} {l : List ByteArray} (h : TLV w (.slice a n c) l) : n = l.length ∧ TIn w a l := by
  obtain ⟨a', c', e, hi⟩ := h.tin
  simp only [Value.slice.injEq] at e
  obtain ⟨rfl, rfl, rfl⟩ := e
  exact ⟨rfl, hi⟩
theorem l9Purge_at (w : World) (B base : Nat) (bu gu : Int) (a1 a2 : Option Addr) (n1 k1 n2 k2 : Nat) (l1 l2 : List (Ent × EntR)) (a : Option Addr) (n kc : Nat) (ks : List ByteArray) (hard : Bool) (hks : ks.length ≤ 1000) (hs : S4 w B (.int .i64 bu) (.int .i64 gu) (.slice a1 n1 k1) (.slice a2 n2 k2)) (h : StoO w base (.slice a1 n1 k1) (.slice a2 n2 k2) l1 l2) (hbase : base ≤ w.heap.size) (hbB : base ≤ B) (hB1 : B ∉ fp (.slice a1 n1 k1) l1) (hB2 : B ∉ fp (.slice a2 n2 k2) l2) (z1 : l1.length ≤ 1000) (z2 : l2.length ≤ 1000) (hk : TLV w (.slice a n kc) ks) (hkb : ∀ b, (Value.slice a n kc).ownBlock = some b → b < base) :
    Calls Tryz.prog 162 #[.pointer (some ⟨B, 0, none⟩), .slice a n kc, .bool hard] w fun e w' => e = .returned (.tuple #[]) ∧ (∃ a1 k1 n1 a2 k2 n2, S4 w' B (.int .i64 bu) (.int .i64 gu) (.slice a1 n1 k1) (.slice a2 n2 k2) ∧ StoLV w' base (.slice a1 n1 k1) (.slice a2 n2 k2) (resM hard ks l1) (resM hard ks l2)) ∧ Below base w w' := by
  obtain ⟨rfl, _⟩ := hk.at_in
  have hk' : ∀ X, Below base w X → TIn X a ks := fun X hX => (hk.low hkb hX).at_in.2
  cases hard
  · refine (l9SoftS_at w B base bu gu a1 a2 n1 k1 n2 k2 l1 l2 a kc ks hks hs h.lv hbase hB1 hB2 z1 z2 hk').mono ?_
    rintro e w' ⟨h1, ⟨h2, h3⟩, h4⟩
    exact ⟨h1, ⟨a1, k1, n1, a2, k2, n2, h2, h3⟩, h4⟩
  · exact l9Hard_at w B base bu gu _ _ l1 l2 a kc ks hks hs h hbase hbB hB1 hB2 (by omega) (by omega) hk'
set_option maxRecDepth 100000 in
set_option maxHeartbeats 16000000 in
theorem l9Do_at (w : World) (S kb : Nat) (bu gu : Int) (ta ka : Option Addr) (tc kc : Nat) (tl kl : List (Ent × EntR)) (a : Option Addr) (n c : Nat) (ks : List ByteArray) (hard : Bool) (hs : S4 w S (.int .i64 bu) (.int .i64 gu) (.slice ta tl.length tc) (.slice ka kl.length kc)) (hl : tl.length + kl.length ≤ 40) (f1 : ∀ q ∈ tl ++ kl, EntFit q.1) (ht : EntsIn w ta tl) (hq : EntsIn w ka kl) (hks : ks.length ≤ 1000) (hr : RowT w kb (.slice a n c) ks) (hkb : kb ≤ w.heap.size) :
    Calls Tryz.prog 117 #[.pointer (some ⟨S, 0, none⟩), .slice a n c, .bool hard] w fun e w' => PurAns ⟨0, bu, gu, resE hard (inK ks) (tl.map Prod.fst), resE hard (inK ks) (kl.map Prod.fst), ks⟩ kb e w' ∧ Below w.heap.size w w' := by
  obtain ⟨W, hW⟩ : ∃ W, W = w.alloc (.cells #[.int .i64 0, .int .i64 0, .int .i64 0, .slice none 0 0, .slice none 0 0, .slice none 0 0] 81) := ⟨_, rfl⟩
  have HW : Hid (W = w.alloc (.cells #[.int .i64 0, .int .i64 0, .int .i64 0, .slice none 0 0, .slice none 0 0, .slice none 0 0] 81)) := hW
  have bW : Below w.heap.size w W := by rw [hW]; exact (Below.refl _ _).alloc (Nat.le_refl _) _
  have sS := hs.keep bW
  have tlv := hr.lv.1
  have tlt : ∀ b, (Value.slice a n c).ownBlock = some b → b < w.heap.size := fun b e => tlv.block_lt b e
  have K0 : Hid (Below w.heap.size w W ∧ S6 W w.heap.size (.int .i64 0) (.int .i64 0) (.int .i64 0) (.slice none 0 0) (.slice none 0 0) (.slice none 0 0) ∧ W.heap.size = w.heap.size + 1) := ⟨bW, by rw [hW]; exact S6.new w _ _ _ _ _ _ _, by rw [hW]; simp⟩
  have CC : Hid (Calls Tryz.prog 67 #[.pointer (some ⟨S, 0, none⟩)] W fun e w' => (∃ a1 k1 n1 a2 k2 n2 m1 m2, e = .returned (.agg #[.int .i64 bu, .int .i64 gu, .slice a1 n1 k1, .slice a2 n2 k2]) ∧ m1.map Prod.fst = tl.map Prod.fst ∧ m2.map Prod.fst = kl.map Prod.fst ∧ StoO w' W.heap.size (.slice a1 n1 k1) (.slice a2 n2 k2) m1 m2) ∧ Below W.heap.size W w') := by
    refine (l8Copy_at W S bu gu ta ka tc kc tl kl ⟨sS.c0, sS.c1, sS.c2, sS.c3⟩ sS.lt (by omega) (by omega) (fun q h => f1 q (List.mem_append.2 (.inl h))) (fun q h => f1 q (List.mem_append.2 (.inr h))) (ht.keep bW) (hq.keep bW)).mono ?_
    rintro e w' ⟨⟨v1, v2, m1, m2, rfl, q1, q2, o⟩, hb⟩
    obtain ⟨a1, k1, rfl, _⟩ := row_form o.t.own
    obtain ⟨a2, k2, rfl, _⟩ := row_form o.k.own
    exact ⟨⟨a1, k1, _, a2, k2, _, m1, m2, rfl, q1, q2, o⟩, hb⟩
  have HT : Hid (∀ X, Below w.heap.size w X → TLV X (.slice a n c) ks) := fun X hX => tlv.low (B := w.heap.size) tlt hX
  have HTB : Hid (∀ b, (Value.slice a n c).ownBlock = some b → kb ≤ b ∧ b < w.heap.size) := fun b e => ⟨hr.lv.2 b e, tlt b e⟩
  have HL : Hid (tl.length + kl.length ≤ 40 ∧ ks.length ≤ 1000 ∧ kb ≤ w.heap.size) := ⟨hl, hks, hkb⟩
  clear hW bW sS tlv tlt hs hl f1 ht hq hks hr hkb
  go_enter Tryz.func117, Tryz.ntmps117
  go_wp2_with fail
  rw [← HW.out]
  refine CC.out.mono ?_
  rintro r0 w1 ⟨⟨a1, k1, n1, a2, k2, n2, m1, m2, rfl, q1, q2, o⟩, hb1⟩
  obtain ⟨V1, hV1⟩ : ∃ V, V = w1.alloc (.cells #[.int .i64 bu, .int .i64 gu, .slice a1 n1 k1, .slice a2 n2 k2] 28) := ⟨_, rfl⟩
  have HV1 : Hid (V1 = w1.alloc (.cells #[.int .i64 bu, .int .i64 gu, .slice a1 n1 k1, .slice a2 n2 k2] 28)) := hV1
  have aV : Below w1.heap.size w1 V1 := by rw [hV1]; exact (Below.refl _ _).alloc (Nat.le_refl _) _
  have bV : Below W.heap.size W V1 := hb1.trans (aV.mono hb1.size)
  have bw : Below w.heap.size w V1 := K0.out.1.trans (bV.mono K0.out.1.size)
  have sV : S4 V1 w1.heap.size (.int .i64 bu) (.int .i64 gu) (.slice a1 n1 k1) (.slice a2 n2 k2) := by rw [hV1]; exact S4.new w1 _ _ _ _ _
  have ln1 : m1.length = tl.length := by have := congrArg List.length q1; simpa using this
  have ln2 : m2.length = kl.length := by have := congrArg List.length q2; simpa using this
  have hln := HL.out
  have hz := K0.out.2.2
  have CP : Hid _ := l9Purge_at V1 w1.heap.size W.heap.size bu gu a1 a2 n1 k1 n2 k2 m1 m2 a n c ks hard hln.2.1 sV (o.below aV) bV.size hb1.size (fun h => by have := o.t.lt h; omega) (fun h => by have := o.k.lt h; omega) (by omega) (by omega) (HT.out V1 bw) (fun b e => by have := (HTB.out b e).2; omega)
  have K1 : Hid (Below w.heap.size w V1 ∧ S6 V1 w.heap.size (.int .i64 0) (.int .i64 0) (.int .i64 0) (.slice none 0 0) (.slice none 0 0) (.slice none 0 0) ∧ W.heap.size = w.heap.size + 1) := ⟨bw, K0.out.2.1.keep bV, hz⟩
  have HM : Hid ((resM hard ks m1).map Prod.fst = resE hard (inK ks) (tl.map Prod.fst) ∧ (resM hard ks m2).map Prod.fst = resE hard (inK ks) (kl.map Prod.fst)) := ⟨by rw [resM_map, q1], by rw [resM_map, q2]⟩
  clear hV1 aV bV bw sV hb1 K0 o q1 q2 ln1 ln2 CC HW hln hz
  go_wp2_with fail
  rw [← HV1.out]
  refine Calls.mono CP.out ?_
  rintro e0 w2 ⟨rfl, ⟨a3, k3, n3, a4, k4, n4, s2, o2⟩, hb2⟩
  have hs6 : S6 w2 w.heap.size (.int .i64 0) (.int .i64 0) (.int .i64 0) (.slice none 0 0) (.slice none 0 0) (.slice none 0 0) := K1.out.2.1.low hb2 (by have := K1.out.2.2; omega)
  have HB : Hid (Below w.heap.size w w2) := K1.out.1.trans (hb2.mono (by have := K1.out.2.2; omega))
  have HO2 : Hid (StoLV w2 W.heap.size (.slice a3 n3 k3) (.slice a4 n4 k4) (resM hard ks m1) (resM hard ks m2) ∧ w.heap.size < W.heap.size) := ⟨o2, by have := K1.out.2.2; omega⟩
  have z0 := hs6.c0
  have z1 := hs6.c1
  have z2 := hs6.c2
  have z3 := hs6.c3
  have z4 := hs6.c4
  have z5 := hs6.c5
  have zf0 := hs6.fr 0
  have zf1 := hs6.fr 1
  have zf2 := hs6.fr 2
  have zf3 := hs6.fr 3
  have zf4 := hs6.fr 4
  have zf5 := hs6.fr 5
  have y0 := s2.c0
  have y1 := s2.c1
  have y2 := s2.c2
  have y3 := s2.c3
  clear hs6 s2 o2 hb2 K1 CP HV1
  go_wp2_with fail
  refine bodyPost_ret (v := .agg #[.int .i64 0, .int .i64 bu, .int .i64 gu, .slice a3 n3 k3, .slice a4 n4 k4, .slice a n c]) (by simp [results, Tryz.results117, go_sem, z0, z1, z2, z3, z4, z5]) rfl ?_
  have hlt := HO2.out.2
  have hB := (((((HB.out.setCell (p := ⟨w.heap.size, 0, none⟩) (Nat.le_refl _) (.int .i64 0)).setCell (p := ⟨w.heap.size, 1, none⟩) (Nat.le_refl _) (.int .i64 bu)).setCell (p := ⟨w.heap.size, 2, none⟩) (Nat.le_refl _) (.int .i64 gu)).setCell (p := ⟨w.heap.size, 3, none⟩) (Nat.le_refl _) (.slice a3 n3 k3)).setCell (p := ⟨w.heap.size, 4, none⟩) (Nat.le_refl _) (.slice a4 n4 k4)).setCell (p := ⟨w.heap.size, 5, none⟩) (Nat.le_refl _) (.slice a n c)
  have hO := ((((((HO2.out.1.off1 (i := 0) (.int .i64 0) hlt).off1 (i := 1) (.int .i64 bu) hlt).off1 (i := 2) (.int .i64 gu) hlt).off1 (i := 3) (.slice a3 n3 k3) hlt).off1 (i := 4) (.slice a4 n4 k4) hlt).off1 (i := 5) (.slice a n c) hlt)
  have hkw := HL.out.2.2
  exact ⟨PurAns.got hO (by omega) HM.out.1 HM.out.2 (HT.out _ hB) (fun q e => ⟨(HTB.out q e).1, fun hm => by have := hO.t.ge hm; have := (HTB.out q e).2; omega, fun hm => by have := hO.k.ge hm; have := (HTB.out q e).2; omega⟩), hB⟩
end Go.Proofs.YtdooopkpnanekaaGreatDoor
/-
  PurgeKey, PurgeTag, PurgeAll, by the model.
-/
namespace Go.Proofs.YtdooopkpnanekaaGreatDoor
open Go.ChangeShapes Go.WideShapes Go.ChangeAt Go.RowKit Go.Sort
open Classical in
noncomputable def purA (bu gu : Int) (tl kl : List Ent) (p : Ent → Bool) (hard : Bool) : QAns :=
  if storeC bu gu tl kl ≠ 0 then badQ (storeC bu gu tl kl) else ⟨0, bu, gu, resE hard p tl, resE hard p kl, keysP p (tl ++ kl)⟩
theorem key_same {L : List Ent} (hn : NdK L) {x y : Ent} (hx : x ∈ L) (hy : y ∈ L) (e : x.key = y.key) : x = y := by
  unfold NdK keysE at hn
  obtain ⟨i, hi, rfl⟩ := List.mem_iff_getElem.1 hx
  obtain ⟨j, hj, rfl⟩ := List.mem_iff_getElem.1 hy
  have := (List.getElem_inj (xs := L.map fun x => x.key.toList) (h₀ := by simpa using hi) (h₁ := by simpa using hj) hn).1 (by simp [e])
  subst this
  rfl
theorem inK_keysP {p : Ent → Bool} {L : List Ent} (hn : NdK L) {x : Ent} (hx : x ∈ L) : inK (keysP p L) x = p x := by
  unfold inK tagB keysP
  rw [List.any_map]
  cases hp : p x
  · rw [← Bool.not_eq_true]
    intro h
    obtain ⟨y, hy, e⟩ := List.any_eq_true.1 h
    obtain ⟨hy1, hy2⟩ := List.mem_filter.1 hy
    have e' : y.key = x.key := by simpa using e
    rw [key_same hn hy1 hx e'] at hy2
    rw [hp] at hy2
    cases hy2
  · exact List.any_eq_true.2 ⟨x, List.mem_filter.2 ⟨hx, hp⟩, by simp⟩
theorem resE_congr {hard : Bool} {p q : Ent → Bool} {L : List Ent} (h : ∀ x ∈ L, p x = q x) : resE hard p L = resE hard q L := by
  cases hard
  · exact List.map_congr_left fun x hx => by simp [h x hx]
  · exact List.filter_congr fun x hx => by simp [h x hx]
theorem resE_keys {hard : Bool} {p : Ent → Bool} {tl kl : List Ent} (hn : NdK (tl ++ kl)) : resE hard (inK (keysP p (tl ++ kl))) tl = resE hard p tl ∧ resE hard (inK (keysP p (tl ++ kl))) kl = resE hard p kl :=
  ⟨resE_congr fun _ hx => inK_keysP hn (List.mem_append_left _ hx), resE_congr fun _ hx => inK_keysP hn (List.mem_append_right _ hx)⟩
theorem PurAns.off6 {w' : World} {A : QAns} {base b : Nat} {r : QR} (h : QSto w' base w'.heap.size r A.t A.k A.g) (hb : b < base) (u0 u1 u2 u3 u4 u5 : Value) : QSto ((((((w'.setCell ⟨b, 0, none⟩ u0).setCell ⟨b, 1, none⟩ u1).setCell ⟨b, 2, none⟩ u2).setCell ⟨b, 3, none⟩ u3).setCell ⟨b, 4, none⟩ u4).setCell ⟨b, 5, none⟩ u5) base ((((((w'.setCell ⟨b, 0, none⟩ u0).setCell ⟨b, 1, none⟩ u1).setCell ⟨b, 2, none⟩ u2).setCell ⟨b, 3, none⟩ u3).setCell ⟨b, 4, none⟩ u4).setCell ⟨b, 5, none⟩ u5).heap.size r A.t A.k A.g := by
  obtain ⟨m1, m2, e1, e2, h1, h2, h3, h4⟩ := h
  have hO := ((((((h1.off1 (i := 0) u0 hb).off1 (i := 1) u1 hb).off1 (i := 2) u2 hb).off1 (i := 3) u3 hb).off1 (i := 4) u4 hb).off1 (i := 5) u5 hb)
  have o : Out [b] w' ((((((w'.setCell ⟨b, 0, none⟩ u0).setCell ⟨b, 1, none⟩ u1).setCell ⟨b, 2, none⟩ u2).setCell ⟨b, 3, none⟩ u3).setCell ⟨b, 4, none⟩ u4).setCell ⟨b, 5, none⟩ u5) := (((((Out.set w' b 0 u0).trans (Out.set _ b 1 u1)).trans (Out.set _ b 2 u2)).trans (Out.set _ b 3 u3)).trans (Out.set _ b 4 u4)).trans (Out.set _ b 5 u5)
  exact QSto.mk e1 e2 hO (h3.out o (fun q e hm => by simp at hm; subst hm; have := (h4 _ e).1; omega)) (fun q e => ⟨(h4 q e).1, (h4 q e).2.2.1, (h4 q e).2.2.2⟩)
theorem QSto.lower {W : World} {b0 base hi : Nat} {r : QR} {L1 L2 : List Ent} {G : List ByteArray} (h : QSto W base hi r L1 L2 G) (hb : b0 ≤ base) : QSto W b0 hi r L1 L2 G := by
  obtain ⟨m1, m2, e1, e2, h1, h2, h3, h4⟩ := h
  exact ⟨m1, m2, e1, e2, h1.lower hb, h2, h3, fun b e => ⟨Nat.le_trans hb (h4 b e).1, (h4 b e).2⟩⟩
set_option maxRecDepth 100000 in
set_option maxHeartbeats 16000000 in
theorem specPurgeTag_any (w : World) (bu gu : Int) (ta ka : Option Addr) (tc kc : Nat) (tl kl : List (Ent × EntR)) (tag : ByteArray) (hard : Bool) (hl : tl.length ≤ 1048576) (hk : kl.length ≤ 1048576) (hto : ∀ q ∈ tl ++ kl, EntOk q.1) (hft : ∀ q ∈ tl ++ kl, EntFit q.1) (ht : EntsIn w ta tl) (hq : EntsIn w ka kl) :
    Calls Tryz.prog 48 #[.agg #[.int .i64 bu, .int .i64 gu, .slice ta tl.length tc, .slice ka kl.length kc], .string tag, .bool hard] w fun e w' => PurAns (purA bu gu (tl.map Prod.fst) (kl.map Prod.fst) (tagP tag) hard) w.heap.size e w' ∧ Below w.heap.size w w' := by
  have HF : Hid (∀ X, Below w.heap.size w X → Calls Tryz.prog 30 #[.agg #[.int .i64 bu, .int .i64 gu, .slice ta tl.length tc, .slice ka kl.length kc]] X fun r w' => r = .returned (.int .i64 (storeC bu gu (tl.map Prod.fst) (kl.map Prod.fst))) ∧ Below X.heap.size X w') := fun X hb => specSto_any X bu gu ta ka tc kc tl kl hl hk hto (ht.keep hb) (hq.keep hb)
  have HT : Hid (storeC bu gu (tl.map Prod.fst) (kl.map Prod.fst) = 0 → ∀ X, Below w.heap.size w X → X.cell? ⟨w.heap.size, 2, none⟩ = some (.slice ta tl.length tc) → X.cell? ⟨w.heap.size, 3, none⟩ = some (.slice ka kl.length kc) → Calls Tryz.prog 118 #[.pointer (some ⟨w.heap.size, 0, none⟩), .string tag] X fun e w' => (∃ a n k, e = .returned (.slice a n k) ∧ RowT w' X.heap.size (.slice a n k) (keysP (tagP tag) (tl.map Prod.fst ++ kl.map Prod.fst))) ∧ Below X.heap.size X w') := fun h0 X hX c2 c3 => by
    have hln : tl.length + kl.length ≤ 1000000 := by have := (storeC_zero h0).2.1; rw [List.length_map, List.length_map] at this; omega
    refine (l9Tagged_at X w.heap.size tag ta ka tc kc tl kl c2 c3 hln hft (ht.keep hX) (hq.keep hX)).mono ?_
    rintro e w' ⟨⟨v, rfl, ho⟩, hb⟩
    obtain ⟨va, vc, rfl, _⟩ := row_form ho
    exact ⟨⟨va, _, vc, rfl, ho⟩, hb⟩
  have HD : Hid (storeC bu gu (tl.map Prod.fst) (kl.map Prod.fst) = 0 → ∀ X kb a n k, Below w.heap.size w X → S4 X w.heap.size (.int .i64 bu) (.int .i64 gu) (.slice ta tl.length tc) (.slice ka kl.length kc) → RowT X kb (.slice a n k) (keysP (tagP tag) (tl.map Prod.fst ++ kl.map Prod.fst)) → kb ≤ X.heap.size → Calls Tryz.prog 117 #[.pointer (some ⟨w.heap.size, 0, none⟩), .slice a n k, .bool hard] X fun e w' => (∃ r : QR, e = .returned (.agg #[.int .i64 0, .int .i64 bu, .int .i64 gu, .slice r.s.a1 r.s.n1 r.s.k1, .slice r.s.a2 r.s.n2 r.s.k2, .slice r.a3 r.n3 r.k3]) ∧ QSto w' kb w'.heap.size r (resE hard (tagP tag) (tl.map Prod.fst)) (resE hard (tagP tag) (kl.map Prod.fst)) (keysP (tagP tag) (tl.map Prod.fst ++ kl.map Prod.fst))) ∧ Below X.heap.size X w') := fun h0 X kb a n k hX hs hr hkb => by
    have hln : tl.length + kl.length ≤ 40 := by have := (storeC_zero h0).2.1; rw [List.length_map, List.length_map] at this; omega
    have hkl : (keysP (tagP tag) (tl.map Prod.fst ++ kl.map Prod.fst)).length ≤ 1000 := by
      have := keysP_len (tagP tag) (tl.map Prod.fst ++ kl.map Prod.fst)
      rw [List.length_append, List.length_map, List.length_map] at this
      omega
    have := l9Do_at X w.heap.size kb bu gu ta ka tc kc tl kl a n k _ hard hs hln hft (ht.keep hX) (hq.keep hX) hkl hr hkb
    rw [(resE_keys (storeC_nd h0)).1, (resE_keys (storeC_nd h0)).2] at this
    exact this
  obtain ⟨W, hW⟩ : ∃ W, W = (w.alloc (.cells #[.int .i64 bu, .int .i64 gu, .slice ta tl.length tc, .slice ka kl.length kc] 28)).alloc (.cells #[.int .i64 0, .int .i64 0, .int .i64 0, .slice none 0 0, .slice none 0 0, .slice none 0 0] 81) := ⟨_, rfl⟩
  have HW : Hid (W = (w.alloc (.cells #[.int .i64 bu, .int .i64 gu, .slice ta tl.length tc, .slice ka kl.length kc] 28)).alloc (.cells #[.int .i64 0, .int .i64 0, .int .i64 0, .slice none 0 0, .slice none 0 0, .slice none 0 0] 81)) := hW
  have K0 : Hid (Below w.heap.size w W ∧ S4 W w.heap.size (.int .i64 bu) (.int .i64 gu) (.slice ta tl.length tc) (.slice ka kl.length kc) ∧ S6 W (w.heap.size + 1) (.int .i64 0) (.int .i64 0) (.int .i64 0) (.slice none 0 0) (.slice none 0 0) (.slice none 0 0) ∧ w.heap.size + 2 ≤ W.heap.size) := by
    rw [hW]
    refine ⟨((Below.refl _ _).alloc (Nat.le_refl _) _).alloc (by simp) _, (S4.new w _ _ _ _ _).keep ((Below.refl _ _).alloc (Nat.le_refl _) _), ?_, by simp⟩
    have := S6.new (w.alloc (.cells #[.int .i64 bu, .int .i64 gu, .slice ta tl.length tc, .slice ka kl.length kc] 28)) (.int .i64 0) (.int .i64 0) (.int .i64 0) (.slice none 0 0) (.slice none 0 0) (.slice none 0 0) 81
    simpa using this
  obtain ⟨A, hA⟩ : ∃ A, purA bu gu (tl.map Prod.fst) (kl.map Prod.fst) (tagP tag) hard = A := ⟨_, rfl⟩
  rw [hA]
  unfold purA at hA
  have HA : Hid (_ = A) := hA
  have e0 := K0.out.2.1.c0
  have e1 := K0.out.2.1.c1
  have e2 := K0.out.2.1.c2
  have e3 := K0.out.2.1.c3
  rw [HW.out] at e0 e1 e2 e3
  clear hW hl hk hto hft ht hq hA
  generalize storeC bu gu (tl.map Prod.fst) (kl.map Prod.fst) = sc at *
  generalize resE hard (tagP tag) (tl.map Prod.fst) = R1 at *
  generalize resE hard (tagP tag) (kl.map Prod.fst) = R2 at *
  generalize keysP (tagP tag) (tl.map Prod.fst ++ kl.map Prod.fst) = KS at *
  generalize tl.length = tn at *
  generalize kl.length = kn at *
  go_enter Tryz.func48, Tryz.ntmps48
  go_wp2_with fail
  rw [← HW.out]
  refine (HF.out _ K0.out.1).mono ?_
  rintro r0 w1 ⟨rfl, hb1⟩
  have K1 : Hid (Below w.heap.size w w1 ∧ S4 w1 w.heap.size (.int .i64 bu) (.int .i64 gu) (.slice ta tn tc) (.slice ka kn kc) ∧ S6 w1 (w.heap.size + 1) (.int .i64 0) (.int .i64 0) (.int .i64 0) (.slice none 0 0) (.slice none 0 0) (.slice none 0 0) ∧ w.heap.size + 2 ≤ w1.heap.size) := ⟨K0.out.1.trans (hb1.mono K0.out.1.size), K0.out.2.1.keep hb1, K0.out.2.2.1.keep hb1, by have := K0.out.2.2.2; have := hb1.size; omega⟩
  clear K0 HW hb1 HF e0 e1 e2 e3
  by_cases cs : sc = 0
  · subst cs
    have HAe : Hid (A = ⟨0, bu, gu, R1, R2, KS⟩) := by have := HA.out; simp only [ne_eq, not_true_eq_false, if_false] at this; exact this.symm
    have HT1 := HT.out rfl
    have HD1 := HD.out rfl
    clear HA HT HD
    go_wp2_with fail
    refine (HT1 _ K1.out.1 K1.out.2.1.c2 K1.out.2.1.c3).mono ?_
    rintro r0 w2 ⟨⟨a, n, k, rfl, ho⟩, hb2⟩
    have CD := HD1 w2 w1.heap.size a n k (K1.out.1.trans (hb2.mono K1.out.1.size)) (K1.out.2.1.keep hb2) ho hb2.size
    have K2 : Hid (Below w.heap.size w w2 ∧ S6 w2 (w.heap.size + 1) (.int .i64 0) (.int .i64 0) (.int .i64 0) (.slice none 0 0) (.slice none 0 0) (.slice none 0 0) ∧ w.heap.size + 2 ≤ w1.heap.size) := ⟨K1.out.1.trans (hb2.mono K1.out.1.size), K1.out.2.2.1.keep hb2, K1.out.2.2.2⟩
    clear K1 HT1 HD1 ho hb2
    go_wp2_with fail
    refine CD.mono ?_
    rintro r0 w3 ⟨⟨r, rfl, hQ⟩, hb3⟩
    have HQ : Hid (QSto w3 w1.heap.size w3.heap.size r R1 R2 KS) := hQ
    have HB : Hid (Below w.heap.size w w3 ∧ w.heap.size + 1 < w1.heap.size) := ⟨K2.out.1.trans (hb3.mono K2.out.1.size), by have := K2.out.2.2; omega⟩
    have hs6 := K2.out.2.1.keep hb3
    have z0 := hs6.c0
    have z1 := hs6.c1
    have z2 := hs6.c2
    have z3 := hs6.c3
    have z4 := hs6.c4
    have z5 := hs6.c5
    have zf0 := hs6.fr 0
    have zf1 := hs6.fr 1
    have zf2 := hs6.fr 2
    have zf3 := hs6.fr 3
    have zf4 := hs6.fr 4
    have zf5 := hs6.fr 5
    clear hs6 hQ hb3 K2 CD
    go_wp2_with fail
    refine bodyPost_ret (v := .agg #[.int .i64 0, .int .i64 bu, .int .i64 gu, .slice r.s.a1 r.s.n1 r.s.k1, .slice r.s.a2 r.s.n2 r.s.k2, .slice r.a3 r.n3 r.k3]) (by simp [results, Tryz.results48, go_sem, z0, z1, z2, z3, z4, z5]) rfl ?_
    refine ⟨PurAns.of ⟨r, rfl, QSto.lower (PurAns.off6 (A := ⟨0, bu, gu, R1, R2, KS⟩) HQ.out HB.out.2 _ _ _ _ _ _) (by have := HB.out.2; omega)⟩ HAe.out, ?_⟩
    exact (((((HB.out.1.setCell (by simp) _).setCell (by simp) _).setCell (by simp) _).setCell (by simp) _).setCell (by simp) _).setCell (by simp) _
  · have HAe : Hid (A = badQ sc) := by have := HA.out; rw [if_pos cs] at this; exact this.symm
    have z0 := K1.out.2.2.1.c0
    have z1 := K1.out.2.2.1.c1
    have z2 := K1.out.2.2.1.c2
    have z3 := K1.out.2.2.1.c3
    have z4 := K1.out.2.2.1.c4
    have z5 := K1.out.2.2.1.c5
    have zf0 := K1.out.2.2.1.fr 0
    have zf1 := K1.out.2.2.1.fr 1
    have zf2 := K1.out.2.2.1.fr 2
    have zf3 := K1.out.2.2.1.fr 3
    have zf4 := K1.out.2.2.1.fr 4
    have zf5 := K1.out.2.2.1.fr 5
    have HB : Hid (Below w.heap.size w w1) := K1.out.1
    clear HA K1 HT HD
    go_wp2_with fail
    refine bodyPost_ret (v := .agg #[.int .i64 sc, .int .i64 0, .int .i64 0, .slice none 0 0, .slice none 0 0, .slice none 0 0]) (by simp [results, Tryz.results48, go_sem, z0, z1, z2, z3, z4, z5]) rfl ?_
    exact ⟨(PurAns.bad _ _ _).of HAe.out, (((((HB.out.setCell (by simp) _).setCell (by simp) _).setCell (by simp) _).setCell (by simp) _).setCell (by simp) _).setCell (by simp) _⟩
end Go.Proofs.YtdooopkpnanekaaGreatDoor
