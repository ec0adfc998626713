/-
  The law of head lines: what its calls answer, over lists of their own.
-/
import Derived.Test.YthlenlijdlfdeaaDoorDraw4H
import Derived.Test.YthlenlijdlfdeaaDoorHLawPlain
import Derived.Test.YthlenlijdlfdeaaDoorSameHFns
import Derived.Test.YthlenlijdlfdeaaDoorHReadFns
import Derived.Test.YthlenlijdlfdeaaDoorHJoinImpl
namespace Go.Proofs.YthlenlijdlfdeaaDoor
open Go.ChangeShapes Go.WideShapes Go.ChangeAt Go.RowKit Go.Sort
namespace heads
theorem tfield_code (c : Int) (t : ByteArray) (w : World) : (Instr.field 28 (.agg #[.int .i64 c, .string t]) 0).run Tryd.prog w = .ok (.int .i64 c) w := by kernel_rfl
theorem tfield_text (c : Int) (t : ByteArray) (w : World) : (Instr.field 28 (.agg #[.int .i64 c, .string t]) 1).run Tryd.prog w = .ok (.string t) w := by kernel_rfl
theorem pfield_code (c : Int) (a : Option Addr) (n k : Nat) (w : World) : (Instr.field 31 (.agg #[.int .i64 c, .slice a n k]) 0).run Tryd.prog w = .ok (.int .i64 c) w := by kernel_rfl
theorem pfield_items (c : Int) (a : Option Addr) (n k : Nat) (w : World) : (Instr.field 31 (.agg #[.int .i64 c, .slice a n k]) 1).run Tryd.prog w = .ok (.slice a n k) w := by kernel_rfl
theorem own_its {w : World} {base : Nat} {a : Option Addr} {n c : Nat} {L : List Hdr} (h : OwnH w base (.slice a n c) L) : n = L.length ∧ HdsIn w a L ∧ L.length ≤ c := by
  have h0 := h
  obtain ⟨a', c', e, hi⟩ := h.at
  simp only [Value.slice.injEq] at e
  refine ⟨e.2.1, by rw [e.1]; exact hi, ?_⟩
  obtain ⟨_, h | ⟨g, c2, cur, e2, _, _, hc, _⟩⟩ := h0
  · have := h.2; omega
  · simp only [Value.slice.injEq] at e2
    rw [e2.2.2]; exact hc
structure TR (w : World) (b : Nat) (c : Int) (t : ByteArray) : Prop where
  c0 : w.cell? ⟨b, 0, none⟩ = some (.int .i64 c)
  c1 : w.cell? ⟨b, 1, none⟩ = some (.string t)
theorem TR.keep {w w' : World} {b : Nat} {c : Int} {t : ByteArray} (h : TR w b c t) (hb : Below w.heap.size w w') : TR w' b c t :=
  ⟨by rw [hb.cell (p := ⟨b, 0, none⟩) (block_lt_of_cell h.c0), h.c0], by rw [hb.cell (p := ⟨b, 1, none⟩) (block_lt_of_cell h.c1), h.c1]⟩
theorem tr_new (w : World) (c : Int) (s : ByteArray) (t : TypeId) : TR (w.alloc (.cells #[.int .i64 c, .string s] t)) w.heap.size c s := ⟨by simp, by simp⟩
structure PR (w : World) (b : Nat) (c : Int) (v : Value) : Prop where
  c0 : w.cell? ⟨b, 0, none⟩ = some (.int .i64 c)
  c1 : w.cell? ⟨b, 1, none⟩ = some v
theorem PR.keep {w w' : World} {b : Nat} {c : Int} {v : Value} (h : PR w b c v) (hb : Below w.heap.size w w') : PR w' b c v :=
  ⟨by rw [hb.cell (p := ⟨b, 0, none⟩) (block_lt_of_cell h.c0), h.c0], by rw [hb.cell (p := ⟨b, 1, none⟩) (block_lt_of_cell h.c1), h.c1]⟩
theorem pr_new (w : World) (c : Int) (a : Option Addr) (n k : Nat) (t : TypeId) : PR (w.alloc (.cells #[.int .i64 c, .slice a n k] t)) w.heap.size c (.slice a n k) := ⟨by simp, by simp⟩
/-- What a call hands back that hands a list back. -/
def GotH (c : Int) (M : List Hdr) (e : Ending) (w : World) : Prop := ∃ a n k, e = .returned (.agg #[.int .i64 c, .slice a n k]) ∧ OwnH w 0 (.slice a n k) M
theorem got_of {c : Int} {M : List Hdr} {base : Nat} {e : Ending} {w : World} (h : HRes c M base e w) : GotH c M e w := by
  obtain ⟨v, rfl, ho⟩ := h
  obtain ⟨a, k, rfl, _⟩ := ho.at
  exact ⟨a, _, k, rfl, ho.lower (Nat.zero_le _)⟩
/-- What stands behind the five calls. -/
structure FH (w : World) (la : Option Addr) (ln lc : Nat) (L : List Hdr) (sa : Option Addr) (sn sk : Nat) (S : List Hdr) (da : Option Addr) (dn dk : Nat) (D : List Hdr) (ra : Option Addr) (rn rk : Nat) (R : List Hdr) (Lp Ls Ld Lr : Nat) (pc sc dc rc : Int) (pt : ByteArray) (X : World) : Prop where
  b : Below w.heap.size w X
  ol : OwnH X 0 (.slice la ln lc) L
  os : OwnH X 0 (.slice sa sn sk) S
  od : OwnH X 0 (.slice da dn dk) D
  or : OwnH X 0 (.slice ra rn rk) R
  p : TR X Lp pc pt
  s : PR X Ls sc (.slice sa sn sk)
  d : PR X Ld dc (.slice da dn dk)
  r : PR X Lr rc (.slice ra rn rk)
theorem FH.keep {w : World} {la : Option Addr} {ln lc : Nat} {L : List Hdr} {sa : Option Addr} {sn sk : Nat} {S : List Hdr} {da : Option Addr} {dn dk : Nat} {D : List Hdr} {ra : Option Addr} {rn rk : Nat} {R : List Hdr} {Lp Ls Ld Lr : Nat} {pc sc dc rc : Int} {pt : ByteArray} {X Y : World} (h : FH w la ln lc L sa sn sk S da dn dk D ra rn rk R Lp Ls Ld Lr pc sc dc rc pt X) (hb : Below X.heap.size X Y) : FH w la ln lc L sa sn sk S da dn dk D ra rn rk R Lp Ls Ld Lr pc sc dc rc pt Y :=
  ⟨h.b.trans (hb.mono h.b.size), h.ol.below hb, h.os.below hb, h.od.below hb, h.or.below hb, h.p.keep hb, h.s.keep hb, h.d.keep hb, h.r.keep hb⟩
section
variable (X : World) (a : Option Addr) (n k : Nat) (M : List Hdr)
theorem sFault (ho : OwnH X 0 (.slice a n k) M) (hM : M.length ≤ 1048576) : Calls Tryd.prog 17 #[.slice a n k] X fun e w' => e = .returned (.int .i64 (headsC M)) ∧ Below X.heap.size X w' := by
  obtain ⟨rfl, i1, _⟩ := own_its ho
  exact specHFault_any X a k M hM i1
theorem iFault (ho : OwnH X 0 (.slice a n k) M) (hM : M.length ≤ 1048576) (hs : SetIs X) : Calls Tryd.prog 18 #[.slice a n k] X fun e w' => e = .returned (.int .i64 (headsC M)) ∧ Below X.heap.size X w' := by
  obtain ⟨rfl, i1, _⟩ := own_its ho
  exact implHFault_any X a k M hM hs i1
theorem iPack (ho : OwnH X 0 (.slice a n k) M) (hM : M.length ≤ 1048576) (hs : SetIs X) : Calls Tryd.prog 12 #[.slice a n k] X fun e w' => e = .returned (.agg #[.int .i64 (headsC M), .string (packT M)]) ∧ Below X.heap.size X w' := by
  obtain ⟨rfl, i1, _⟩ := own_its ho
  exact implPack_any X a k M hM hs i1
theorem iDrop (name : ByteArray) (ho : OwnH X 0 (.slice a n k) M) (hM : M.length ≤ 1048576) (hs : SetIs X) : Calls Tryd.prog 14 #[.slice a n k, .string name] X fun e w' => GotH (askC M name) (dropL M name) e w' ∧ Below X.heap.size X w' := by
  obtain ⟨rfl, i1, _⟩ := own_its ho
  exact (implDrop_any X a k M name hM hs i1).mono fun _ _ ⟨h1, h2⟩ => ⟨got_of h1, h2⟩
theorem sDrop (name : ByteArray) (ho : OwnH X 0 (.slice a n k) M) (hM : M.length ≤ 1048576) : Calls Tryd.prog 20 #[.slice a n k, .string name] X fun e w' => GotH (askC M name) (dropL M name) e w' ∧ Below X.heap.size X w' := by
  obtain ⟨rfl, i1, _⟩ := own_its ho
  exact (specDrop_any X a k M name hM i1).mono fun _ _ ⟨h1, h2⟩ => ⟨got_of h1, h2⟩
theorem iSet (name value : ByteArray) (ho : OwnH X 0 (.slice a n k) M) (hM : M.length ≤ 1048576) (hn : name.size ≤ 1100) (hv : value.size ≤ 1100) (hs : SetIs X) : Calls Tryd.prog 13 #[.slice a n k, .string name, .string value] X fun e w' => GotH (setC M ⟨name, value⟩) (setL M ⟨name, value⟩) e w' ∧ Below X.heap.size X w' := by
  obtain ⟨rfl, i1, _⟩ := own_its ho
  exact (implSet_any X a k M name value hM (by omega) (by omega) hs i1).mono fun _ _ ⟨h1, h2⟩ => ⟨got_of h1, h2⟩
theorem sSet (name value : ByteArray) (ho : OwnH X 0 (.slice a n k) M) (hM : M.length ≤ 1048576) : Calls Tryd.prog 19 #[.slice a n k, .string name, .string value] X fun e w' => GotH (setC M ⟨name, value⟩) (setL M ⟨name, value⟩) e w' ∧ Below X.heap.size X w' := by
  obtain ⟨rfl, i1, _⟩ := own_its ho
  exact (specSet_any X a k M name value hM i1).mono fun _ _ ⟨h1, h2⟩ => ⟨got_of h1, h2⟩
theorem iJoin (name : ByteArray) (ho : OwnH X 0 (.slice a n k) M) (hM : M.length ≤ 1048576) (hs : SetIs X) : Calls Tryd.prog 23 #[.slice a n k, .string name] X fun e w' => e = .returned (.agg #[.int .i64 (joinC M name), .string (joinT M name)]) ∧ Below X.heap.size X w' := by
  obtain ⟨rfl, i1, i2⟩ := own_its ho
  exact implJoin_any X a k M name hM i2 hs i1
theorem iSame (b : Option Addr) (m j : Nat) (h1 : OwnH X 0 (.slice a n k) M) (h2 : OwnH X 0 (.slice b m j) M) (hM : M.length ≤ 1048576) : Calls Tryd.prog 22 #[.slice a n k, .slice b m j] X fun e w' => e = .returned (.bool true) ∧ Below X.heap.size X w' := by
  obtain ⟨rfl, i1, _⟩ := own_its h1
  obtain ⟨rfl, i2, _⟩ := own_its h2
  have := implSameH_any X a b k j M M hM i1 i2
  rw [sameHs_refl] at this
  exact this
theorem sSame (b : Option Addr) (m j : Nat) (h1 : OwnH X 0 (.slice a n k) M) (h2 : OwnH X 0 (.slice b m j) M) (hM : M.length ≤ 1048576) : Calls Tryd.prog 24 #[.slice a n k, .slice b m j] X fun e w' => e = .returned (.bool true) ∧ Below X.heap.size X w' := by
  obtain ⟨rfl, i1, _⟩ := own_its h1
  obtain ⟨rfl, i2, _⟩ := own_its h2
  have := specSameH_any X a b k j M M hM i1 i2
  rw [sameHs_refl] at this
  exact this
end
theorem iRead (X : World) (s : ByteArray) (hs : SetIs X) (hm : MaxIs X) : Calls Tryd.prog 16 #[.string s] X fun e w' => GotH (readHC s) (readHL s) e w' ∧ Below X.heap.size X w' :=
  (implRead_any s X hs hm).mono fun _ _ ⟨h1, h2⟩ => ⟨got_of h1, h2⟩
theorem sRead (X : World) (s : ByteArray) : Calls Tryd.prog 21 #[.string s] X fun e w' => GotH (readHC s) (readHL s) e w' ∧ Below X.heap.size X w' :=
  (specRead_any s X).mono fun _ _ ⟨h1, h2⟩ => ⟨got_of h1, h2⟩
end heads
end Go.Proofs.YthlenlijdlfdeaaDoor
