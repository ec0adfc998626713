/-
  Texts of one claim, one behind the other.
-/
import Derived.Below
import Derived.BigQuiet
import Derived.Deep.CutBlock
import Derived.Deep.CutRange
import Derived.Deep.QuietTactic
import Derived.Deep.RegionHeld3
import Derived.Deep.RegionWith
import Derived.Deep.Slices
import Derived.Deep.Strs
import Derived.Laws.IdiomStrings
import Derived.Lib.QuietBelow
import Derived.OpenShut
import Derived.ProofKit
import Derived.Test.YtopkidfbkhjaeaaGreatDoorProg
import Derived.WalkKit
import Derived.WalkLawsBesides
import Derived.WalkSpells
/-
  Small lemmas that the walks share.
-/
namespace Go.Proofs.YtopkidfbkhjaeaaGreatDoor
open Go.ChangeShapes Go.WideShapes Go.ChangeAt Go.RowKit
theorem bcell {W w1 : World} (hb : Below W.heap.size W w1) : (∀ b o, b < W.heap.size → w1.cell? ⟨b, o, none⟩ = W.cell? ⟨b, o, none⟩) ∧ (∀ b o, b < W.heap.size → w1.frozen? ⟨b, o, none⟩ = W.frozen? ⟨b, o, none⟩) :=
  ⟨fun b o h => hb.cell (p := ⟨b, o, none⟩) h, fun b o h => hb.frozen (p := ⟨b, o, none⟩) h⟩
theorem two_set {w : World} {B : Nat} {u0 u1 v0 v1 : Value} (p0 : w.cell? ⟨B, 0, none⟩ = some u0) (p1 : w.cell? ⟨B, 1, none⟩ = some u1) :
    ((w.setCell ⟨B, 0, none⟩ v0).setCell ⟨B, 1, none⟩ v1).cell? ⟨B, 0, none⟩ = some v0 ∧ ((w.setCell ⟨B, 0, none⟩ v0).setCell ⟨B, 1, none⟩ v1).cell? ⟨B, 1, none⟩ = some v1 := by
  constructor
  · rw [World.cell?_setCell_other _ _ _ _ (by intro h; have := congrArg Addr.off h; simp at this), World.cell?_setCell_same _ _ _ p0]
  · refine World.cell?_setCell_same _ _ _ (u := u1) ?_
    rw [World.cell?_setCell_other _ _ _ _ (by intro h; have := congrArg Addr.off h; simp at this), p1]
theorem ret_int {k : IntKind} {a b : Int} (h : a = b) : Ending.returned (.int k a) = .returned (.int k b) := by rw [h]
theorem ret_bool {a b : Bool} (h : a = b) : Ending.returned (.bool a) = .returned (.bool b) := by rw [h]
theorem ret_str {a b : ByteArray} (h : a = b) : Ending.returned (.string a) = .returned (.string b) := by rw [h]
theorem take_snoc (s : ByteArray) (k : Nat) (h : k < s.size) : s.data.toList.take (k + 1) = s.data.toList.take k ++ [s[k]] := by
  rw [List.take_succ_eq_append_getElem (by simpa using h)]; rfl
end Go.Proofs.YtopkidfbkhjaeaaGreatDoor
/-
  What a law keeps in memory while it goes on: facts that hang on the blocks of a stretch alone.
-/
namespace Go.Proofs.YtopkidfbkhjaeaaGreatDoor
open Go.ChangeShapes Go.WideShapes Go.ChangeAt Go.RowKit
theorem hidL {p : Prop} (h : p) : Hid p := h
/-- What C says hangs on the blocks from l up to h alone. -/
def Dep (l h : Nat) (C : World → Prop) : Prop :=
  ∀ X X' : World, h ≤ X.heap.size → X.heap.size ≤ X'.heap.size → (∀ b o, l ≤ b → b < h → X'.cell? ⟨b, o, none⟩ = X.cell? ⟨b, o, none⟩ ∧ X'.frozen? ⟨b, o, none⟩ = X.frozen? ⟨b, o, none⟩) → C X → C X'
structure At (l h : Nat) (C : Nat → Nat → World → Prop) (X : World) : Prop where
  le : h ≤ X.heap.size
  dep : Dep l h (C l h)
  val : C l h X
/-- Nothing is written but in the blocks from lo up to hi, and in new ones. -/
structure Wi (lo hi : Nat) (X X' : World) : Prop where
  size : X.heap.size ≤ X'.heap.size
  cell : ∀ b o, b < X.heap.size → (b < lo ∨ hi ≤ b) → X'.cell? ⟨b, o, none⟩ = X.cell? ⟨b, o, none⟩
  frozen : ∀ b o, b < X.heap.size → (b < lo ∨ hi ≤ b) → X'.frozen? ⟨b, o, none⟩ = X.frozen? ⟨b, o, none⟩
theorem At.wi {l h lo hi : Nat} {C : Nat → Nat → World → Prop} {X X' : World} (k : At l h C X) (g : Wi lo hi X X') (hd : h ≤ lo ∨ hi ≤ l) : At l h C X' :=
  ⟨Nat.le_trans k.le g.size, k.dep, k.dep X X' k.le g.size (fun b o h1 h2 => ⟨g.cell b o (Nat.lt_of_lt_of_le h2 k.le) (by omega), g.frozen b o (Nat.lt_of_lt_of_le h2 k.le) (by omega)⟩) k.val⟩
theorem Wi.of {lo hi : Nat} {X X' : World} (hb : Below X.heap.size X X') : Wi lo hi X X' :=
  ⟨hb.size, fun b o h _ => hb.cell (p := ⟨b, o, none⟩) h, fun b o h _ => hb.frozen (p := ⟨b, o, none⟩) h⟩
theorem At.keep {l h : Nat} {C : Nat → Nat → World → Prop} {X X' : World} (k : At l h C X) (hb : Below X.heap.size X X') : At l h C X' :=
  k.wi (lo := h) (hi := h) (Wi.of hb) (.inl (Nat.le_refl _))
theorem At.al {l h : Nat} {C : Nat → Nat → World → Prop} {X : World} (k : At l h C X) (o : Obj) : At l h C (X.alloc o) := k.keep ((Below.refl _ _).alloc (Nat.le_refl _) _)
theorem At.set {l h : Nat} {C : Nat → Nat → World → Prop} {X : World} (k : At l h C X) {b i : Nat} (u : Value) (hd : b < l ∨ h ≤ b) : At l h C (X.setCell ⟨b, i, none⟩ u) :=
  k.wi (lo := b) (hi := b + 1) ⟨by simp, fun b' o _ hne => World.cell?_setCell_other _ _ _ _ (fun e => by have := congrArg Addr.block e; simp only at this; omega), fun b' o _ _ => by rw [World.frozen?_setCell]⟩ (by omega)
/-- A box that lies there. -/
def Bx (b : Nat) (vs : List Value) (_ _ : Nat) (X : World) : Prop := (∀ i v, vs[i]? = some v → X.cell? ⟨b, i, none⟩ = some v) ∧ ∀ o, X.frozen? ⟨b, o, none⟩ = false
theorem Bx.dep (b : Nat) (vs : List Value) (l h : Nat) : Dep b (b + 1) (Bx b vs l h) := fun X X' _ _ h k =>
  ⟨fun i v hv => by rw [(h b i (Nat.le_refl _) (Nat.lt_succ_self _)).1]; exact k.1 i v hv, fun o => by rw [(h b o (Nat.le_refl _) (Nat.lt_succ_self _)).2]; exact k.2 o⟩
theorem Bx.new (X : World) (vs : List Value) (t : TypeId) : At X.heap.size (X.heap.size + 1) (Bx X.heap.size vs) (X.alloc (.cells vs.toArray t)) := by
  refine ⟨by simp, Bx.dep _ _ _ _, fun i v hv => ?_, fun o => ?_⟩
  · rw [World.cell?_alloc_mark]
    simpa using hv
  · have e := heap_alloc_new X (.cells vs.toArray t)
    unfold World.frozen?
    rw [e]
    simp
theorem Bx.newAt {X : World} {b : Nat} (hb : X.heap.size = b) (vs : List Value) (t : TypeId) : At b (b + 1) (Bx b vs) (X.alloc (.cells vs.toArray t)) := by
  subst hb
  exact Bx.new X vs t
theorem Bx.put {X : World} {b : Nat} {vs : List Value} (k : At b (b + 1) (Bx b vs) X) (i : Nat) (u : Value) (hi : i < vs.length) : At b (b + 1) (Bx b (vs.set i u)) (X.setCell ⟨b, i, none⟩ u) := by
  refine ⟨by simpa using k.le, Bx.dep _ _ _ _, fun j v hv => ?_, fun o => by rw [World.frozen?_setCell]; exact k.val.2 o⟩
  by_cases e : j = i
  · subst e
    rw [List.getElem?_set_self hi] at hv
    obtain rfl := Option.some.inj hv
    exact World.cell?_setCell_same _ _ _ (k.val.1 j (vs[j]) (List.getElem?_eq_getElem hi))
  · rw [List.getElem?_set_ne (fun q => e q.symm)] at hv
    rw [World.cell?_setCell_other _ _ _ _ (fun q => e (by have := congrArg Addr.off q; simpa using this.symm))]
    exact k.val.1 j v hv
theorem Wi.trans {lo hi : Nat} {X Y Z : World} (g : Wi lo hi X Y) (k : Wi lo hi Y Z) : Wi lo hi X Z :=
  ⟨Nat.le_trans g.size k.size, fun b o h1 h2 => by rw [k.cell b o (Nat.lt_of_lt_of_le h1 g.size) h2]; exact g.cell b o h1 h2, fun b o h1 h2 => by rw [k.frozen b o (Nat.lt_of_lt_of_le h1 g.size) h2]; exact g.frozen b o h1 h2⟩
theorem Wi.wide {lo hi l h : Nat} {X Y : World} (g : Wi lo hi X Y) (h1 : l ≤ lo) (h2 : hi ≤ h) : Wi l h X Y :=
  ⟨g.size, fun b o hb hd => g.cell b o hb (by omega), fun b o hb hd => g.frozen b o hb (by omega)⟩
end Go.Proofs.YtopkidfbkhjaeaaGreatDoor
/-
  The law of RelayOf, over contracts.
-/
namespace Go.Proofs.YtopkidfbkhjaeaaGreatDoor
open Go.ChangeShapes Go.WideShapes Go.ChangeAt Go.RowKit
set_option linter.unusedSimpArgs false in
set_option maxRecDepth 100000 in
set_option maxHeartbeats 32000000 in
theorem walk_Relay (w : World) (s : Int) (a : Option Addr) (n cap : Nat) (b : Option Addr) (bn bc : Nat) (hd : Bool) (rc rs : Int) (z1 : Int) (CA1 : Nat → Nat → Nat → Nat → World → Prop) (CR MR : Option Addr → Nat → Nat → Option Addr → Nat → Nat → Nat → Nat → World → Prop) (k1 q : Int) (HZ1 : Hid (∀ X, Below w.heap.size w X → Calls Tryz.prog 7 #[.agg #[.int .i64 s, .slice a n cap, .slice b bn bc], .int .i64 1048576] X fun e w' => e = .returned (.int .i64 z1) ∧ Below X.heap.size X w'))
    (HT1 : Hid (¬ z1 < 0 → ∀ X, Below w.heap.size w X → Calls Tryz.prog 9 #[.agg #[.int .i64 s, .slice a n cap, .slice b bn bc]] X fun e w' => (∃ (K : Nat) (D : Nat), e = .returned (.agg #[.int .i64 s, .slice (some ⟨K, 0, none⟩) n n, .slice (some ⟨D, 0, none⟩) bn bn]) ∧ At X.heap.size w'.heap.size (CA1 K D) w') ∧ Below X.heap.size X w'))
    (HQ1 : Hid (¬ z1 < 0 → ∀ X la ha lb hb (Kx : Nat) (Dx : Nat) (Ky : Nat) (Dy : Nat), At la ha (CA1 Kx Dx) X → At lb hb (CA1 Ky Dy) X → Calls Tryz.prog 12 #[.agg #[.int .i64 s, .slice (some ⟨Kx, 0, none⟩) n n, .slice (some ⟨Dx, 0, none⟩) bn bn], .agg #[.int .i64 s, .slice (some ⟨Ky, 0, none⟩) n n, .slice (some ⟨Dy, 0, none⟩) bn bn]] X fun e w' => e = .returned (.bool true) ∧ Below X.heap.size X w'))
    (HM1 : Hid (¬ z1 < 0 → ∀ X l h (K : Nat) (D : Nat), At l h (CA1 K D) X → w.heap.size ≤ l → Calls Tryz.prog 13 #[.agg #[.int .i64 s, .slice (some ⟨K, 0, none⟩) n n, .slice (some ⟨D, 0, none⟩) bn bn], .int .i64 1] X fun e w' => e = .returned (.int .i64 k1) ∧ Wi l h X w' ∧ Below w.heap.size X w'))
    (HF : Hid (¬ z1 < 0 → ∀ X l1 h1 (K : Nat) (D : Nat), Below w.heap.size w X → At l1 h1 (CA1 K D) X → Calls Tryz.prog 8 #[.agg #[.int .i64 s, .slice (some ⟨K, 0, none⟩) n n, .slice (some ⟨D, 0, none⟩) bn bn], .bool hd] X fun e w' => (∃ (rar : Option Addr) (rnr : Nat) (rkr : Nat) (rbr : Option Addr) (rmr : Nat) (rlr : Nat), e = .returned (.agg #[.int .i64 rc, .int .i64 rs, .slice rar rnr rkr, .slice rbr rmr rlr]) ∧ At X.heap.size w'.heap.size (CR rar rnr rkr rbr rmr rlr) w') ∧ Below X.heap.size X w'))
    (HG : Hid (¬ z1 < 0 → ∀ X l1 h1 (K : Nat) (D : Nat), Below w.heap.size w X → At l1 h1 (CA1 K D) X → Calls Tryz.prog 10 #[.agg #[.int .i64 s, .slice (some ⟨K, 0, none⟩) n n, .slice (some ⟨D, 0, none⟩) bn bn], .bool hd] X fun e w' => (∃ (rar : Option Addr) (rnr : Nat) (rkr : Nat) (rbr : Option Addr) (rmr : Nat) (rlr : Nat), e = .returned (.agg #[.int .i64 rc, .int .i64 rs, .slice rar rnr rkr, .slice rbr rmr rlr]) ∧ At X.heap.size w'.heap.size (CR rar rnr rkr rbr rmr rlr) w') ∧ Below X.heap.size X w'))
    (HEQ : Hid (¬ z1 < 0 → ∀ X la ha lb hb (rax : Option Addr) (rnx : Nat) (rkx : Nat) (rbx : Option Addr) (rmx : Nat) (rlx : Nat) (ray : Option Addr) (rny : Nat) (rky : Nat) (rby : Option Addr) (rmy : Nat) (rly : Nat), At la ha (CR rax rnx rkx rbx rmx rlx) X → At lb hb (CR ray rny rky rby rmy rly) X → Calls Tryz.prog 11 #[.agg #[.int .i64 rc, .int .i64 rs, .slice rax rnx rkx, .slice rbx rmx rlx], .agg #[.int .i64 rc, .int .i64 rs, .slice ray rny rky, .slice rby rmy rly]] X fun e w' => e = .returned (.bool true) ∧ Below X.heap.size X w'))
    (HMR : Hid (¬ z1 < 0 → ∀ X l h (rar : Option Addr) (rnr : Nat) (rkr : Nat) (rbr : Option Addr) (rmr : Nat) (rlr : Nat), Below w.heap.size w X → At l h (CR rar rnr rkr rbr rmr rlr) X → w.heap.size ≤ l → Calls Tryz.prog 14 #[.agg #[.int .i64 rc, .int .i64 rs, .slice rar rnr rkr, .slice rbr rmr rlr], .int .i64 1] X fun e w' => e = .returned (.int .i64 q) ∧ At l h (MR rar rnr rkr rbr rmr rlr) w' ∧ Wi l h X w' ∧ Below w.heap.size X w'))
    (HHR : Hid (¬ z1 < 0 → ∀ X l h (rar : Option Addr) (rnr : Nat) (rkr : Nat) (rbr : Option Addr) (rmr : Nat) (rlr : Nat), At l h (MR rar rnr rkr rbr rmr rlr) X → Calls Tryz.prog 15 #[.agg #[.int .i64 rc, .int .i64 rs, .slice rar rnr rkr, .slice rbr rmr rlr], .int .i64 1] X fun e w' => e = .returned (.int .i64 q) ∧ Below X.heap.size X w'))
    (hk0 : ¬ k1 < 0) (hq0 : ¬ q < 0) :
    Calls Tryz.prog 3 #[.agg #[.int .i64 s, .slice a n cap, .slice b bn bc], .bool hd] w fun e w' => e = .returned (.bool true) ∧ Below w.heap.size w w' := by
  obtain ⟨W, hW⟩ : ∃ W, W = (w.alloc (.cells #[.int .i64 s, .slice a n cap, .slice b bn bc] 25)) := ⟨_, rfl⟩
  have HW : Hid (W = (w.alloc (.cells #[.int .i64 s, .slice a n cap, .slice b bn bc] 25))) := hW
  have KW : Hid (Below w.heap.size w W) := by rw [hW]; exact ((Below.refl _ _).alloc (Nat.le_refl _) _)
  have SW : Hid (w.heap.size + 1 ≤ W.heap.size) := by rw [hW]; show _ ≤ _; simp
  have FA1_0 : Hid (At w.heap.size (w.heap.size + 1) (Bx w.heap.size [.int .i64 s, .slice a n cap, .slice b bn bc]) W) := by rw [hW]; exact Bx.newAt rfl [.int .i64 s, .slice a n cap, .slice b bn bc] _
  clear hW
  go_enter Tryz.func3, Tryz.ntmps3
  go_wp2_with fail
  rw [← HW.out]
  clear HW
  refine (HZ1.out  _ KW.out).mono ?_
  rintro e0 w1 ⟨rfl, hb⟩
  have K2 : Hid (Below w.heap.size w w1) := KW.out.trans (hb.mono KW.out.size)
  have F3 : Hid (At w.heap.size (w.heap.size + 1) (Bx w.heap.size [.int .i64 s, .slice a n cap, .slice b bn bc]) w1) := FA1_0.out.keep hb
  clear KW FA1_0 hb
  clear HZ1
  by_cases cz1 : z1 < 0
  · clear HT1 HQ1 HM1 HF HG HEQ HMR HHR F3 SW
    go_wp2_with fail
    go_ret
    exact ⟨rfl, K2.out⟩
  replace HT1 := hidL (HT1.out (by omega))
  replace HQ1 := hidL (HQ1.out (by omega))
  replace HM1 := hidL (HM1.out (by omega))
  replace HF := hidL (HF.out (by omega))
  replace HG := hidL (HG.out (by omega))
  replace HEQ := hidL (HEQ.out (by omega))
  replace HMR := hidL (HMR.out (by omega))
  replace HHR := hidL (HHR.out (by omega))
  have p0 := F3.out.val.1 0 _ rfl
  have p1 := F3.out.val.1 1 _ rfl
  have p2 := F3.out.val.1 2 _ rfl
  go_wp2_with fail
  refine (HT1.out _ K2.out).mono ?_
  rintro e0 w4 ⟨⟨Ks, Ds, rfl, ca⟩, hb⟩
  clear p0 p1 p2
  have K5 : Hid (Below w.heap.size w w4) := K2.out.trans (hb.mono K2.out.size)
  have F6 : Hid (At w.heap.size (w.heap.size + 1) (Bx w.heap.size [.int .i64 s, .slice a n cap, .slice b bn bc]) w4) := F3.out.keep hb
  clear K2 F3 hb
  have CA_s : Hid (At w1.heap.size w4.heap.size (CA1 Ks Ds) w4) := ca
  clear ca
  go_wp2_with fail
  refine (HF.out _ _ _ _ _ K5.out CA_s.out).mono ?_
  rintro e0 w7 ⟨⟨ras, rns, rks, rbs, rms, rls, rfl, cr⟩, hb⟩
  have K8 : Hid (Below w.heap.size w w7) := K5.out.trans (hb.mono K5.out.size)
  have F9 : Hid (At w.heap.size (w.heap.size + 1) (Bx w.heap.size [.int .i64 s, .slice a n cap, .slice b bn bc]) w7) := F6.out.keep hb
  clear K5 F6 hb
  clear CA_s
  obtain ⟨l11, hl11⟩ : ∃ n, w4.heap.size = n := ⟨_, rfl⟩
  obtain ⟨h12, hh12⟩ : ∃ n, w7.heap.size = n := ⟨_, rfl⟩
  have F10 : Hid (At l11 h12 (CR ras rns rks rbs rms rls) w7) := by rw [← hl11, ← hh12]; exact cr
  clear cr hl11 hh12
  obtain ⟨V14, hV14⟩ : ∃ V, V = w7.alloc (.cells #[.int .i64 rc, .int .i64 rs, .slice ras rns rks, .slice rbs rms rls] 31) := ⟨_, rfl⟩
  have HV14 : Hid (V14 = w7.alloc (.cells #[.int .i64 rc, .int .i64 rs, .slice ras rns rks, .slice rbs rms rls] 31)) := hV14
  have ab : Below w7.heap.size w7 V14 := by rw [hV14]; exact (Below.refl _ _).alloc (Nat.le_refl _) _
  have F15 : Hid (At w7.heap.size (w7.heap.size + 1) (Bx w7.heap.size [.int .i64 rc, .int .i64 rs, .slice ras rns rks, .slice rbs rms rls]) V14) := by rw [hV14]; exact Bx.new _ _ _
  have O16 : Hid ((w.heap.size + 1) ≤ w7.heap.size ∧ h12 ≤ w7.heap.size ∧ w.heap.size ≤ w7.heap.size) := ⟨F9.out.le, F10.out.le, K8.out.size⟩
  have K17 : Hid (Below w.heap.size w V14) := K8.out.trans (ab.mono K8.out.size)
  have F18 : Hid (At w.heap.size (w.heap.size + 1) (Bx w.heap.size [.int .i64 s, .slice a n cap, .slice b bn bc]) V14) := F9.out.keep ab
  have F19 : Hid (At l11 h12 (CR ras rns rks rbs rms rls) V14) := F10.out.keep ab
  clear K8 F9 F10
  clear ab hV14
  clear HF
  have p0 := F18.out.val.1 0 _ rfl
  have p1 := F18.out.val.1 1 _ rfl
  have p2 := F18.out.val.1 2 _ rfl
  rw [HV14.out] at p0 p1 p2
  go_wp2_with fail
  rw [← HV14.out]
  clear HV14
  generalize w7.heap.size = x20 at *
  refine (HT1.out _ K17.out).mono ?_
  rintro e0 w21 ⟨⟨Kx1, Dx1, rfl, ca⟩, hb⟩
  clear p0 p1 p2
  obtain ⟨l22, hl22⟩ : ∃ n, V14.heap.size = n := ⟨_, rfl⟩
  obtain ⟨h23, hh23⟩ : ∃ n, w21.heap.size = n := ⟨_, rfl⟩
  have O24 : Hid ((w.heap.size + 1) ≤ l22 ∧ h12 ≤ l22 ∧ (x20 + 1) ≤ l22 ∧ w.heap.size ≤ l22 ∧ l22 ≤ h23) := ⟨(by rw [← hl22]; exact F18.out.le), (by rw [← hl22]; exact F19.out.le), (by rw [← hl22]; exact F15.out.le), (by rw [← hl22]; exact K17.out.size), (by rw [← hl22, ← hh23]; exact hb.size)⟩
  have F25 : Hid (At l22 h23 (CA1 Kx1 Dx1) w21) := by rw [← hl22, ← hh23]; exact ca
  clear ca hl22 hh23
  have K26 : Hid (Below w.heap.size w w21) := K17.out.trans (hb.mono K17.out.size)
  have F27 : Hid (At w.heap.size (w.heap.size + 1) (Bx w.heap.size [.int .i64 s, .slice a n cap, .slice b bn bc]) w21) := F18.out.keep hb
  have F28 : Hid (At l11 h12 (CR ras rns rks rbs rms rls) w21) := F19.out.keep hb
  have F29 : Hid (At x20 (x20 + 1) (Bx x20 [.int .i64 rc, .int .i64 rs, .slice ras rns rks, .slice rbs rms rls]) w21) := F15.out.keep hb
  clear K17 F18 F19 F15 hb
  obtain ⟨V30, hV30⟩ : ∃ V, V = w21.alloc (.cells #[.int .i64 s, .slice (some ⟨Kx1, 0, none⟩) n n, .slice (some ⟨Dx1, 0, none⟩) bn bn] 29) := ⟨_, rfl⟩
  have HV30 : Hid (V30 = w21.alloc (.cells #[.int .i64 s, .slice (some ⟨Kx1, 0, none⟩) n n, .slice (some ⟨Dx1, 0, none⟩) bn bn] 29)) := hV30
  have ab : Below w21.heap.size w21 V30 := by rw [hV30]; exact (Below.refl _ _).alloc (Nat.le_refl _) _
  have F31 : Hid (At w21.heap.size (w21.heap.size + 1) (Bx w21.heap.size [.int .i64 s, .slice (some ⟨Kx1, 0, none⟩) n n, .slice (some ⟨Dx1, 0, none⟩) bn bn]) V30) := by rw [hV30]; exact Bx.new _ _ _
  have O32 : Hid ((w.heap.size + 1) ≤ w21.heap.size ∧ h12 ≤ w21.heap.size ∧ (x20 + 1) ≤ w21.heap.size ∧ h23 ≤ w21.heap.size ∧ w.heap.size ≤ w21.heap.size) := ⟨F27.out.le, F28.out.le, F29.out.le, F25.out.le, K26.out.size⟩
  have K33 : Hid (Below w.heap.size w V30) := K26.out.trans (ab.mono K26.out.size)
  have F34 : Hid (At w.heap.size (w.heap.size + 1) (Bx w.heap.size [.int .i64 s, .slice a n cap, .slice b bn bc]) V30) := F27.out.keep ab
  have F35 : Hid (At l11 h12 (CR ras rns rks rbs rms rls) V30) := F28.out.keep ab
  have F36 : Hid (At x20 (x20 + 1) (Bx x20 [.int .i64 rc, .int .i64 rs, .slice ras rns rks, .slice rbs rms rls]) V30) := F29.out.keep ab
  have F37 : Hid (At l22 h23 (CA1 Kx1 Dx1) V30) := F25.out.keep ab
  clear K26 F27 F28 F29 F25
  clear ab hV30
  have p1_0 := F31.out.val.1 0 _ rfl
  have p1_1 := F31.out.val.1 1 _ rfl
  have p1_2 := F31.out.val.1 2 _ rfl
  rw [HV30.out] at p1_0 p1_1 p1_2
  go_wp2_with fail
  rw [← HV30.out]
  clear HV30
  generalize w21.heap.size = x38 at *
  refine (HG.out _ _ _ _ _ K33.out F37.out).mono ?_
  rintro e0 w39 ⟨⟨rag, rng, rkg, rbg, rmg, rlg, rfl, cr⟩, hb⟩
  clear p1_0 p1_1 p1_2
  obtain ⟨l40, hl40⟩ : ∃ n, V30.heap.size = n := ⟨_, rfl⟩
  obtain ⟨h41, hh41⟩ : ∃ n, w39.heap.size = n := ⟨_, rfl⟩
  have O42 : Hid ((w.heap.size + 1) ≤ l40 ∧ h12 ≤ l40 ∧ (x20 + 1) ≤ l40 ∧ h23 ≤ l40 ∧ (x38 + 1) ≤ l40 ∧ w.heap.size ≤ l40 ∧ l40 ≤ h41) := ⟨(by rw [← hl40]; exact F34.out.le), (by rw [← hl40]; exact F35.out.le), (by rw [← hl40]; exact F36.out.le), (by rw [← hl40]; exact F37.out.le), (by rw [← hl40]; exact F31.out.le), (by rw [← hl40]; exact K33.out.size), (by rw [← hl40, ← hh41]; exact hb.size)⟩
  have F43 : Hid (At l40 h41 (CR rag rng rkg rbg rmg rlg) w39) := by rw [← hl40, ← hh41]; exact cr
  clear cr hl40 hh41
  have K44 : Hid (Below w.heap.size w w39) := K33.out.trans (hb.mono K33.out.size)
  have F45 : Hid (At w.heap.size (w.heap.size + 1) (Bx w.heap.size [.int .i64 s, .slice a n cap, .slice b bn bc]) w39) := F34.out.keep hb
  have F46 : Hid (At l11 h12 (CR ras rns rks rbs rms rls) w39) := F35.out.keep hb
  have F47 : Hid (At x20 (x20 + 1) (Bx x20 [.int .i64 rc, .int .i64 rs, .slice ras rns rks, .slice rbs rms rls]) w39) := F36.out.keep hb
  have F48 : Hid (At l22 h23 (CA1 Kx1 Dx1) w39) := F37.out.keep hb
  have F49 : Hid (At x38 (x38 + 1) (Bx x38 [.int .i64 s, .slice (some ⟨Kx1, 0, none⟩) n n, .slice (some ⟨Dx1, 0, none⟩) bn bn]) w39) := F31.out.keep hb
  clear K33 F34 F35 F36 F37 F31 hb
  obtain ⟨V50, hV50⟩ : ∃ V, V = w39.alloc (.cells #[.int .i64 rc, .int .i64 rs, .slice rag rng rkg, .slice rbg rmg rlg] 31) := ⟨_, rfl⟩
  have HV50 : Hid (V50 = w39.alloc (.cells #[.int .i64 rc, .int .i64 rs, .slice rag rng rkg, .slice rbg rmg rlg] 31)) := hV50
  have ab : Below w39.heap.size w39 V50 := by rw [hV50]; exact (Below.refl _ _).alloc (Nat.le_refl _) _
  have F51 : Hid (At w39.heap.size (w39.heap.size + 1) (Bx w39.heap.size [.int .i64 rc, .int .i64 rs, .slice rag rng rkg, .slice rbg rmg rlg]) V50) := by rw [hV50]; exact Bx.new _ _ _
  have O52 : Hid ((w.heap.size + 1) ≤ w39.heap.size ∧ h12 ≤ w39.heap.size ∧ (x20 + 1) ≤ w39.heap.size ∧ h23 ≤ w39.heap.size ∧ (x38 + 1) ≤ w39.heap.size ∧ h41 ≤ w39.heap.size ∧ w.heap.size ≤ w39.heap.size) := ⟨F45.out.le, F46.out.le, F47.out.le, F48.out.le, F49.out.le, F43.out.le, K44.out.size⟩
  have K53 : Hid (Below w.heap.size w V50) := K44.out.trans (ab.mono K44.out.size)
  have F54 : Hid (At w.heap.size (w.heap.size + 1) (Bx w.heap.size [.int .i64 s, .slice a n cap, .slice b bn bc]) V50) := F45.out.keep ab
  have F55 : Hid (At l11 h12 (CR ras rns rks rbs rms rls) V50) := F46.out.keep ab
  have F56 : Hid (At x20 (x20 + 1) (Bx x20 [.int .i64 rc, .int .i64 rs, .slice ras rns rks, .slice rbs rms rls]) V50) := F47.out.keep ab
  have F57 : Hid (At l22 h23 (CA1 Kx1 Dx1) V50) := F48.out.keep ab
  have F58 : Hid (At x38 (x38 + 1) (Bx x38 [.int .i64 s, .slice (some ⟨Kx1, 0, none⟩) n n, .slice (some ⟨Dx1, 0, none⟩) bn bn]) V50) := F49.out.keep ab
  have F59 : Hid (At l40 h41 (CR rag rng rkg rbg rmg rlg) V50) := F43.out.keep ab
  clear K44 F45 F46 F47 F48 F49 F43
  clear ab hV50
  have p0 := F51.out.val.1 0 _ rfl
  have p1 := F51.out.val.1 1 _ rfl
  have p2 := F51.out.val.1 2 _ rfl
  have p3 := F51.out.val.1 3 _ rfl
  have s0 := F56.out.val.1 0 _ rfl
  have s1 := F56.out.val.1 1 _ rfl
  have s2 := F56.out.val.1 2 _ rfl
  have s3 := F56.out.val.1 3 _ rfl
  rw [HV50.out] at p0 p1 p2 p3 s0 s1 s2 s3
  go_wp2_with fail
  rw [← HV50.out]
  clear HV50
  generalize w39.heap.size = x60 at *
  refine (HEQ.out _ _ _ _ _ _ _ _ _ _ _ _ _ _ _ _ _ F59.out F55.out).mono ?_
  rintro e0 w61 ⟨rfl, hb⟩
  clear p0 p1 p2 p3 s0 s1 s2 s3
  have K62 : Hid (Below w.heap.size w w61) := K53.out.trans (hb.mono K53.out.size)
  have F63 : Hid (At w.heap.size (w.heap.size + 1) (Bx w.heap.size [.int .i64 s, .slice a n cap, .slice b bn bc]) w61) := F54.out.keep hb
  have F64 : Hid (At l11 h12 (CR ras rns rks rbs rms rls) w61) := F55.out.keep hb
  have F65 : Hid (At x20 (x20 + 1) (Bx x20 [.int .i64 rc, .int .i64 rs, .slice ras rns rks, .slice rbs rms rls]) w61) := F56.out.keep hb
  have F66 : Hid (At l22 h23 (CA1 Kx1 Dx1) w61) := F57.out.keep hb
  have F67 : Hid (At x38 (x38 + 1) (Bx x38 [.int .i64 s, .slice (some ⟨Kx1, 0, none⟩) n n, .slice (some ⟨Dx1, 0, none⟩) bn bn]) w61) := F58.out.keep hb
  have F68 : Hid (At l40 h41 (CR rag rng rkg rbg rmg rlg) w61) := F59.out.keep hb
  have F69 : Hid (At x60 (x60 + 1) (Bx x60 [.int .i64 rc, .int .i64 rs, .slice rag rng rkg, .slice rbg rmg rlg]) w61) := F51.out.keep hb
  clear K53 F54 F55 F56 F57 F58 F59 F51 hb
  have HKS : Hid (∀ X, Below w61.heap.size w61 X → X.cell? ⟨w.heap.size, 0, none⟩ = some (.int .i64 s) ∧ X.cell? ⟨w.heap.size, 1, none⟩ = some (.slice a n cap) ∧ X.cell? ⟨w.heap.size, 2, none⟩ = some (.slice b bn bc) ∧ X.cell? ⟨x38, 0, none⟩ = some (.int .i64 s) ∧ X.cell? ⟨x38, 1, none⟩ = some (.slice (some ⟨Kx1, 0, none⟩) n n) ∧ X.cell? ⟨x38, 2, none⟩ = some (.slice (some ⟨Dx1, 0, none⟩) bn bn)) := fun X hX => ⟨(F63.out.keep hX).val.1 0 _ rfl, (F63.out.keep hX).val.1 1 _ rfl, (F63.out.keep hX).val.1 2 _ rfl, (F67.out.keep hX).val.1 0 _ rfl, (F67.out.keep hX).val.1 1 _ rfl, (F67.out.keep hX).val.1 2 _ rfl⟩
  have B0 : Hid (Below w61.heap.size w61 w61.drew) := (Below.refl _ _).drew
  have KB0 : Hid (Below w.heap.size w w61.drew) := K62.out.trans (B0.out.mono K62.out.size)
  go_wp2_with fail
  go_region_held3 (fun X => X.cell? ⟨w.heap.size, 0, none⟩ = some (.int .i64 s) ∧ X.cell? ⟨w.heap.size, 1, none⟩ = some (.slice a n cap) ∧ X.cell? ⟨w.heap.size, 2, none⟩ = some (.slice b bn bc) ∧ X.cell? ⟨x38, 0, none⟩ = some (.int .i64 s) ∧ X.cell? ⟨x38, 1, none⟩ = some (.slice (some ⟨Kx1, 0, none⟩) n n) ∧ X.cell? ⟨x38, 2, none⟩ = some (.slice (some ⟨Dx1, 0, none⟩) bn bn))
    (first | ((with_reducible refine HKS.out _ ?_); (with_reducible exact BB.out)) | ((with_reducible refine HKS.out _ ?_); (with_reducible exact BA.out)) | ((with_reducible refine HKS.out _ ?_); (with_reducible exact B0.out)))
    (first
    | (go_at_call 9; (with_reducible refine (HT1.out w61.drew KB0.out).mono ?_); rintro e0 w70 ⟨⟨Kt, Dt, rfl, ca⟩, hb⟩; have BA : Hid (Below w61.heap.size w61 w70) := B0.out.trans (hb.mono B0.out.size); have MA := hidL ca; clear ca hb)
    | (go_at_call 12; (with_reducible refine (HQ1.out w70 _ _ _ _ _ _ _ _ (F66.out.keep BA.out) MA.out).mono ?_); rintro e0 w71 ⟨rfl, hb⟩; have BB : Hid (Below w61.heap.size w61 w71) := BA.out.trans (hb.mono BA.out.size); clear hb))
  have K72 : Hid (Below w.heap.size w w71) := K62.out.trans (BB.out.mono K62.out.size)
  have F73 : Hid (At w.heap.size (w.heap.size + 1) (Bx w.heap.size [.int .i64 s, .slice a n cap, .slice b bn bc]) w71) := F63.out.keep BB.out
  have F74 : Hid (At l11 h12 (CR ras rns rks rbs rms rls) w71) := F64.out.keep BB.out
  have F75 : Hid (At x20 (x20 + 1) (Bx x20 [.int .i64 rc, .int .i64 rs, .slice ras rns rks, .slice rbs rms rls]) w71) := F65.out.keep BB.out
  have F76 : Hid (At l22 h23 (CA1 Kx1 Dx1) w71) := F66.out.keep BB.out
  have F77 : Hid (At x38 (x38 + 1) (Bx x38 [.int .i64 s, .slice (some ⟨Kx1, 0, none⟩) n n, .slice (some ⟨Dx1, 0, none⟩) bn bn]) w71) := F67.out.keep BB.out
  have F78 : Hid (At l40 h41 (CR rag rng rkg rbg rmg rlg) w71) := F68.out.keep BB.out
  have F79 : Hid (At x60 (x60 + 1) (Bx x60 [.int .i64 rc, .int .i64 rs, .slice rag rng rkg, .slice rbg rmg rlg]) w71) := F69.out.keep BB.out
  clear K62 F63 F64 F65 F66 F67 F68 F69
  clear HKS B0 BA BB MA KB0
  clear HQ1
  have p0 := F77.out.val.1 0 _ rfl
  have p1 := F77.out.val.1 1 _ rfl
  have p2 := F77.out.val.1 2 _ rfl
  go_wp2_with fail
  refine (HM1.out _ _ _ _ _ F76.out (by have := SW.out; have := O16.out; have := O24.out; have := O32.out; have := O42.out; have := O52.out; omega)).mono ?_
  rintro e0 w80 ⟨rfl, hg, hb⟩
  clear p0 p1 p2
  clear F76
  have K81 : Hid (Below w.heap.size w w80) := K72.out.trans hb
  have F82 : Hid (At w.heap.size (w.heap.size + 1) (Bx w.heap.size [.int .i64 s, .slice a n cap, .slice b bn bc]) w80) := F73.out.wi hg (by have := SW.out; have := O16.out; have := O24.out; have := O32.out; have := O42.out; have := O52.out; omega)
  have F83 : Hid (At l11 h12 (CR ras rns rks rbs rms rls) w80) := F74.out.wi hg (by have := SW.out; have := O16.out; have := O24.out; have := O32.out; have := O42.out; have := O52.out; omega)
  have F84 : Hid (At x20 (x20 + 1) (Bx x20 [.int .i64 rc, .int .i64 rs, .slice ras rns rks, .slice rbs rms rls]) w80) := F75.out.wi hg (by have := SW.out; have := O16.out; have := O24.out; have := O32.out; have := O42.out; have := O52.out; omega)
  have F85 : Hid (At x38 (x38 + 1) (Bx x38 [.int .i64 s, .slice (some ⟨Kx1, 0, none⟩) n n, .slice (some ⟨Dx1, 0, none⟩) bn bn]) w80) := F77.out.wi hg (by have := SW.out; have := O16.out; have := O24.out; have := O32.out; have := O42.out; have := O52.out; omega)
  have F86 : Hid (At l40 h41 (CR rag rng rkg rbg rmg rlg) w80) := F78.out.wi hg (by have := SW.out; have := O16.out; have := O24.out; have := O32.out; have := O42.out; have := O52.out; omega)
  have F87 : Hid (At x60 (x60 + 1) (Bx x60 [.int .i64 rc, .int .i64 rs, .slice rag rng rkg, .slice rbg rmg rlg]) w80) := F79.out.wi hg (by have := SW.out; have := O16.out; have := O24.out; have := O32.out; have := O42.out; have := O52.out; omega)
  clear K72 F73 F74 F75 F77 F78 F79 hg hb
  clear HM1
  have hkd : decide (k1 < 0) = false := by simpa using hk0
  have p0 := F87.out.val.1 0 _ rfl
  have p1 := F87.out.val.1 1 _ rfl
  have p2 := F87.out.val.1 2 _ rfl
  have p3 := F87.out.val.1 3 _ rfl
  have s0 := F84.out.val.1 0 _ rfl
  have s1 := F84.out.val.1 1 _ rfl
  have s2 := F84.out.val.1 2 _ rfl
  have s3 := F84.out.val.1 3 _ rfl
  go_wp2_with fail
  refine (HEQ.out _ _ _ _ _ _ _ _ _ _ _ _ _ _ _ _ _ F86.out F83.out).mono ?_
  rintro e0 w88 ⟨rfl, hb⟩
  clear p0 p1 p2 p3 s0 s1 s2 s3
  have K89 : Hid (Below w.heap.size w w88) := K81.out.trans (hb.mono K81.out.size)
  have F90 : Hid (At w.heap.size (w.heap.size + 1) (Bx w.heap.size [.int .i64 s, .slice a n cap, .slice b bn bc]) w88) := F82.out.keep hb
  have F91 : Hid (At l11 h12 (CR ras rns rks rbs rms rls) w88) := F83.out.keep hb
  have F92 : Hid (At x20 (x20 + 1) (Bx x20 [.int .i64 rc, .int .i64 rs, .slice ras rns rks, .slice rbs rms rls]) w88) := F84.out.keep hb
  have F93 : Hid (At x38 (x38 + 1) (Bx x38 [.int .i64 s, .slice (some ⟨Kx1, 0, none⟩) n n, .slice (some ⟨Dx1, 0, none⟩) bn bn]) w88) := F85.out.keep hb
  have F94 : Hid (At l40 h41 (CR rag rng rkg rbg rmg rlg) w88) := F86.out.keep hb
  have F95 : Hid (At x60 (x60 + 1) (Bx x60 [.int .i64 rc, .int .i64 rs, .slice rag rng rkg, .slice rbg rmg rlg]) w88) := F87.out.keep hb
  clear K81 F82 F83 F84 F85 F86 F87 hb
  clear hkd
  clear F93
  have p0 := F95.out.val.1 0 _ rfl
  have p1 := F95.out.val.1 1 _ rfl
  have p2 := F95.out.val.1 2 _ rfl
  have p3 := F95.out.val.1 3 _ rfl
  go_wp2_with fail
  refine (HMR.out _ _ _ _ _ _ _ _ _ K89.out F94.out (by have := SW.out; have := O16.out; have := O24.out; have := O32.out; have := O42.out; have := O52.out; omega)).mono ?_
  rintro e0 w96 ⟨rfl, mr, hg, hb⟩
  clear p0 p1 p2 p3 F94
  have K97 : Hid (Below w.heap.size w w96) := K89.out.trans hb
  have F98 : Hid (At w.heap.size (w.heap.size + 1) (Bx w.heap.size [.int .i64 s, .slice a n cap, .slice b bn bc]) w96) := F90.out.wi hg (by have := SW.out; have := O16.out; have := O24.out; have := O32.out; have := O42.out; have := O52.out; omega)
  have F99 : Hid (At l11 h12 (CR ras rns rks rbs rms rls) w96) := F91.out.wi hg (by have := SW.out; have := O16.out; have := O24.out; have := O32.out; have := O42.out; have := O52.out; omega)
  have F100 : Hid (At x20 (x20 + 1) (Bx x20 [.int .i64 rc, .int .i64 rs, .slice ras rns rks, .slice rbs rms rls]) w96) := F92.out.wi hg (by have := SW.out; have := O16.out; have := O24.out; have := O32.out; have := O42.out; have := O52.out; omega)
  have F101 : Hid (At x60 (x60 + 1) (Bx x60 [.int .i64 rc, .int .i64 rs, .slice rag rng rkg, .slice rbg rmg rlg]) w96) := F95.out.wi hg (by have := SW.out; have := O16.out; have := O24.out; have := O32.out; have := O42.out; have := O52.out; omega)
  clear K89 F90 F91 F92 F95 hg hb
  have F102 : Hid (At l40 h41 (MR rag rng rkg rbg rmg rlg) w96) := mr
  clear mr HMR
  have p0 := F101.out.val.1 0 _ rfl
  have p1 := F101.out.val.1 1 _ rfl
  have p2 := F101.out.val.1 2 _ rfl
  have p3 := F101.out.val.1 3 _ rfl
  go_wp2_with fail
  refine (HHR.out _ _ _ _ _ _ _ _ _ F102.out).mono ?_
  rintro e0 w103 ⟨rfl, hb⟩
  clear p0 p1 p2 p3
  have K104 : Hid (Below w.heap.size w w103) := K97.out.trans (hb.mono K97.out.size)
  have F105 : Hid (At w.heap.size (w.heap.size + 1) (Bx w.heap.size [.int .i64 s, .slice a n cap, .slice b bn bc]) w103) := F98.out.keep hb
  have F106 : Hid (At l11 h12 (CR ras rns rks rbs rms rls) w103) := F99.out.keep hb
  have F107 : Hid (At x20 (x20 + 1) (Bx x20 [.int .i64 rc, .int .i64 rs, .slice ras rns rks, .slice rbs rms rls]) w103) := F100.out.keep hb
  have F108 : Hid (At x60 (x60 + 1) (Bx x60 [.int .i64 rc, .int .i64 rs, .slice rag rng rkg, .slice rbg rmg rlg]) w103) := F101.out.keep hb
  have F109 : Hid (At l40 h41 (MR rag rng rkg rbg rmg rlg) w103) := F102.out.keep hb
  clear K97 F98 F99 F100 F101 F102 hb
  clear SW O16 O24 O32 O42 O52
  have p0 := F105.out.val.1 0 _ rfl
  have p1 := F105.out.val.1 1 _ rfl
  have p2 := F105.out.val.1 2 _ rfl
  go_wp2_with fail
  refine (HT1.out _ K104.out).mono ?_
  rintro e0 w110 ⟨⟨Kh, Dh, rfl, ca⟩, hb⟩
  clear p0 p1 p2
  have K111 : Hid (Below w.heap.size w w110) := K104.out.trans (hb.mono K104.out.size)
  have F112 : Hid (At w.heap.size (w.heap.size + 1) (Bx w.heap.size [.int .i64 s, .slice a n cap, .slice b bn bc]) w110) := F105.out.keep hb
  have F113 : Hid (At l11 h12 (CR ras rns rks rbs rms rls) w110) := F106.out.keep hb
  have F114 : Hid (At x20 (x20 + 1) (Bx x20 [.int .i64 rc, .int .i64 rs, .slice ras rns rks, .slice rbs rms rls]) w110) := F107.out.keep hb
  have F115 : Hid (At x60 (x60 + 1) (Bx x60 [.int .i64 rc, .int .i64 rs, .slice rag rng rkg, .slice rbg rmg rlg]) w110) := F108.out.keep hb
  have F116 : Hid (At l40 h41 (MR rag rng rkg rbg rmg rlg) w110) := F109.out.keep hb
  clear K104 F105 F106 F107 F108 F109 hb
  have CA_h : Hid (At w103.heap.size w110.heap.size (CA1 Kh Dh) w110) := ca
  clear ca
  go_wp2_with fail
  refine (HG.out _ _ _ _ _ K111.out CA_h.out).mono ?_
  rintro e0 w117 ⟨⟨rah, rnh, rkh, rbh, rmh, rlh, rfl, cr⟩, hb⟩
  have K118 : Hid (Below w.heap.size w w117) := K111.out.trans (hb.mono K111.out.size)
  have F119 : Hid (At w.heap.size (w.heap.size + 1) (Bx w.heap.size [.int .i64 s, .slice a n cap, .slice b bn bc]) w117) := F112.out.keep hb
  have F120 : Hid (At l11 h12 (CR ras rns rks rbs rms rls) w117) := F113.out.keep hb
  have F121 : Hid (At x20 (x20 + 1) (Bx x20 [.int .i64 rc, .int .i64 rs, .slice ras rns rks, .slice rbs rms rls]) w117) := F114.out.keep hb
  have F122 : Hid (At x60 (x60 + 1) (Bx x60 [.int .i64 rc, .int .i64 rs, .slice rag rng rkg, .slice rbg rmg rlg]) w117) := F115.out.keep hb
  have F123 : Hid (At l40 h41 (MR rag rng rkg rbg rmg rlg) w117) := F116.out.keep hb
  clear K111 F112 F113 F114 F115 F116 hb
  clear CA_h
  obtain ⟨l125, hl125⟩ : ∃ n, w110.heap.size = n := ⟨_, rfl⟩
  obtain ⟨h126, hh126⟩ : ∃ n, w117.heap.size = n := ⟨_, rfl⟩
  have F124 : Hid (At l125 h126 (CR rah rnh rkh rbh rmh rlh) w117) := by rw [← hl125, ← hh126]; exact cr
  clear cr hl125 hh126
  obtain ⟨V128, hV128⟩ : ∃ V, V = w117.alloc (.cells #[.int .i64 rc, .int .i64 rs, .slice rah rnh rkh, .slice rbh rmh rlh] 31) := ⟨_, rfl⟩
  have HV128 : Hid (V128 = w117.alloc (.cells #[.int .i64 rc, .int .i64 rs, .slice rah rnh rkh, .slice rbh rmh rlh] 31)) := hV128
  have ab : Below w117.heap.size w117 V128 := by rw [hV128]; exact (Below.refl _ _).alloc (Nat.le_refl _) _
  have F129 : Hid (At w117.heap.size (w117.heap.size + 1) (Bx w117.heap.size [.int .i64 rc, .int .i64 rs, .slice rah rnh rkh, .slice rbh rmh rlh]) V128) := by rw [hV128]; exact Bx.new _ _ _
  have O130 : Hid ((w.heap.size + 1) ≤ w117.heap.size ∧ h12 ≤ w117.heap.size ∧ (x20 + 1) ≤ w117.heap.size ∧ (x60 + 1) ≤ w117.heap.size ∧ h41 ≤ w117.heap.size ∧ h126 ≤ w117.heap.size ∧ w.heap.size ≤ w117.heap.size) := ⟨F119.out.le, F120.out.le, F121.out.le, F122.out.le, F123.out.le, F124.out.le, K118.out.size⟩
  have K131 : Hid (Below w.heap.size w V128) := K118.out.trans (ab.mono K118.out.size)
  have F132 : Hid (At w.heap.size (w.heap.size + 1) (Bx w.heap.size [.int .i64 s, .slice a n cap, .slice b bn bc]) V128) := F119.out.keep ab
  have F133 : Hid (At l11 h12 (CR ras rns rks rbs rms rls) V128) := F120.out.keep ab
  have F134 : Hid (At x20 (x20 + 1) (Bx x20 [.int .i64 rc, .int .i64 rs, .slice ras rns rks, .slice rbs rms rls]) V128) := F121.out.keep ab
  have F135 : Hid (At x60 (x60 + 1) (Bx x60 [.int .i64 rc, .int .i64 rs, .slice rag rng rkg, .slice rbg rmg rlg]) V128) := F122.out.keep ab
  have F136 : Hid (At l40 h41 (MR rag rng rkg rbg rmg rlg) V128) := F123.out.keep ab
  have F137 : Hid (At l125 h126 (CR rah rnh rkh rbh rmh rlh) V128) := F124.out.keep ab
  clear K118 F119 F120 F121 F122 F123 F124
  clear ab hV128
  clear HG
  have p0 := F129.out.val.1 0 _ rfl
  have p1 := F129.out.val.1 1 _ rfl
  have p2 := F129.out.val.1 2 _ rfl
  have p3 := F129.out.val.1 3 _ rfl
  have s0 := F134.out.val.1 0 _ rfl
  have s1 := F134.out.val.1 1 _ rfl
  have s2 := F134.out.val.1 2 _ rfl
  have s3 := F134.out.val.1 3 _ rfl
  rw [HV128.out] at p0 p1 p2 p3 s0 s1 s2 s3
  go_wp2_with fail
  rw [← HV128.out]
  clear HV128
  generalize w117.heap.size = x138 at *
  refine (HEQ.out _ _ _ _ _ _ _ _ _ _ _ _ _ _ _ _ _ F137.out F133.out).mono ?_
  rintro e0 w139 ⟨rfl, hb⟩
  clear p0 p1 p2 p3 s0 s1 s2 s3
  have K140 : Hid (Below w.heap.size w w139) := K131.out.trans (hb.mono K131.out.size)
  have F141 : Hid (At w.heap.size (w.heap.size + 1) (Bx w.heap.size [.int .i64 s, .slice a n cap, .slice b bn bc]) w139) := F132.out.keep hb
  have F142 : Hid (At l11 h12 (CR ras rns rks rbs rms rls) w139) := F133.out.keep hb
  have F143 : Hid (At x20 (x20 + 1) (Bx x20 [.int .i64 rc, .int .i64 rs, .slice ras rns rks, .slice rbs rms rls]) w139) := F134.out.keep hb
  have F144 : Hid (At x60 (x60 + 1) (Bx x60 [.int .i64 rc, .int .i64 rs, .slice rag rng rkg, .slice rbg rmg rlg]) w139) := F135.out.keep hb
  have F145 : Hid (At l40 h41 (MR rag rng rkg rbg rmg rlg) w139) := F136.out.keep hb
  have F146 : Hid (At l125 h126 (CR rah rnh rkh rbh rmh rlh) w139) := F137.out.keep hb
  have F147 : Hid (At x138 (x138 + 1) (Bx x138 [.int .i64 rc, .int .i64 rs, .slice rah rnh rkh, .slice rbh rmh rlh]) w139) := F129.out.keep hb
  clear K131 F132 F133 F134 F135 F136 F137 F129 hb
  have p0 := F144.out.val.1 0 _ rfl
  have p1 := F144.out.val.1 1 _ rfl
  have p2 := F144.out.val.1 2 _ rfl
  have p3 := F144.out.val.1 3 _ rfl
  go_wp2_with fail
  refine (HHR.out _ _ _ _ _ _ _ _ _ F145.out).mono ?_
  rintro e0 w148 ⟨rfl, hb⟩
  clear p0 p1 p2 p3
  have K149 : Hid (Below w.heap.size w w148) := K140.out.trans (hb.mono K140.out.size)
  have F150 : Hid (At w.heap.size (w.heap.size + 1) (Bx w.heap.size [.int .i64 s, .slice a n cap, .slice b bn bc]) w148) := F141.out.keep hb
  have F151 : Hid (At l11 h12 (CR ras rns rks rbs rms rls) w148) := F142.out.keep hb
  have F152 : Hid (At x20 (x20 + 1) (Bx x20 [.int .i64 rc, .int .i64 rs, .slice ras rns rks, .slice rbs rms rls]) w148) := F143.out.keep hb
  have F153 : Hid (At x60 (x60 + 1) (Bx x60 [.int .i64 rc, .int .i64 rs, .slice rag rng rkg, .slice rbg rmg rlg]) w148) := F144.out.keep hb
  have F154 : Hid (At l40 h41 (MR rag rng rkg rbg rmg rlg) w148) := F145.out.keep hb
  have F155 : Hid (At l125 h126 (CR rah rnh rkh rbh rmh rlh) w148) := F146.out.keep hb
  have F156 : Hid (At x138 (x138 + 1) (Bx x138 [.int .i64 rc, .int .i64 rs, .slice rah rnh rkh, .slice rbh rmh rlh]) w148) := F147.out.keep hb
  clear K140 F141 F142 F143 F144 F145 F146 F147 hb
  go_wp2_with fail
  go_ret
  exact ⟨rfl, K149.out⟩
end Go.Proofs.YtopkidfbkhjaeaaGreatDoor
/-
  Head lines in memory; the laws' own helpers over them.
-/
namespace Go.Proofs.YtopkidfbkhjaeaaGreatDoor
open Go.ChangeShapes Go.WideShapes Go.ChangeAt Go.RowKit
/-- A head line: its name and its value. -/
structure Hdr where
  name : ByteArray
  value : ByteArray
/-- The lines l lie in block b from off on, two cells each. -/
def HeadsAt (w : World) (b off : Nat) (l : List Hdr) : Prop :=
  ∀ (i : Nat) r, l[i]? = some r → w.cell? ⟨b, off + i * 2, none⟩ = some (.string r.name) ∧ w.cell? ⟨b, off + i * 2 + 1, none⟩ = some (.string r.value)
def hdrV (r : Hdr) : Value := .agg #[.string r.name, .string r.value]
def szH (left : Int) (r : Hdr) : Int := if left - (r.name.size : Int) < 0 then -1 else if left - (r.name.size : Int) - (r.value.size : Int) < 0 then -1 else left - (r.name.size : Int) - (r.value.size : Int)
set_option maxHeartbeats 400000 in
theorem szHeader_any (r : Hdr) (left : Int) (w : World) (h0 : 0 ≤ left) (h1 : left ≤ 1048576) (z1 : r.name.size ≤ maxLen) (z2 : r.value.size ≤ maxLen) :
    Calls Tryz.prog 84 #[.agg #[.string r.name, .string r.value], .int .i64 left] w fun e w' => e = .returned (.int .i64 (szH left r)) ∧ Below w.heap.size w w' := by
  unfold maxLen at z1 z2
  obtain ⟨n, v⟩ := r
  simp only at z1 z2 ⊢
  by_cases c1 : left - (n.size : Int) < 0
  · have HE : Hid (szH left ⟨n, v⟩ = -1) := by show _ = _; simp [szH, c1]
    go_enter Tryz.func84, Tryz.ntmps84
    go_wp2
    go_ret
    exact ⟨ret_int HE.out.symm, (Below.refl _ _).alloc (Nat.le_refl _) _⟩
  · by_cases c2 : left - (n.size : Int) - (v.size : Int) < 0
    · have HE : Hid (szH left ⟨n, v⟩ = -1) := by show _ = _; simp [szH, c1, c2]
      go_enter Tryz.func84, Tryz.ntmps84
      go_wp2
      go_ret
      exact ⟨ret_int HE.out.symm, (Below.refl _ _).alloc (Nat.le_refl _) _⟩
    · have HE : Hid (szH left ⟨n, v⟩ = left - (n.size : Int) - (v.size : Int)) := by show _ = _; simp [szH, c1, c2]
      go_enter Tryz.func84, Tryz.ntmps84
      go_wp2
      go_ret
      exact ⟨ret_int HE.out.symm, (Below.refl _ _).alloc (Nat.le_refl _) _⟩
set_option maxHeartbeats 400000 in
theorem toHeader_any (r : Hdr) (w : World) :
    Calls Tryz.prog 90 #[.agg #[.string r.name, .string r.value]] w fun e w' => e = .returned (.agg #[.string r.name, .string r.value]) ∧ Below w.heap.size w w' := by
  obtain ⟨n, v⟩ := r
  simp only
  go_enter Tryz.func90, Tryz.ntmps90
  go_wp2
  exact bodyPost_ret (v := .agg #[.string n, .string v]) (by simp [results, Tryz.results90, go_sem]) rfl ⟨rfl, (((Below.refl _ _).alloc (Nat.le_refl _) _).alloc (by simp) _).alloc (by simp; omega) _⟩
set_option maxHeartbeats 400000 in
theorem eqHeader_same (r : Hdr) (w : World) :
    Calls Tryz.prog 97 #[.agg #[.string r.name, .string r.value], .agg #[.string r.name, .string r.value]] w fun e w' => e = .returned (.bool true) ∧ Below w.heap.size w w' := by
  obtain ⟨n, v⟩ := r
  simp only
  go_enter Tryz.func97, Tryz.ntmps97
  go_wp2
  go_ret
  exact ⟨rfl, ((Below.refl _ _).alloc (Nat.le_refl _) _).alloc (by simp) _⟩
/-- How much room is left behind the items; -1: none. -/
def szHs (left : Int) : List Hdr → Int
  | [] => left
  | r :: l => if szH left r < 0 then -1 else szHs (szH left r) l
def szHL (left : Int) (l : List Hdr) : Int := if left - (l.length : Int) < 0 then -1 else szHs (left - (l.length : Int)) l
def SmallHdrs (l : List Hdr) : Prop := ∀ (i : Nat) r, l[i]? = some r → r.name.size ≤ maxLen ∧ r.value.size ≤ maxLen
theorem HeadsAt.keep {w w' : World} {b off : Nat} {l : List Hdr} (h : HeadsAt w b off l) (hb : Below w.heap.size w w') : HeadsAt w' b off l := by
  intro i r hr
  obtain ⟨a1, a3⟩ := h i r hr
  exact ⟨by rw [hb.cell (block_lt_of_cell a1)]; exact a1, by rw [hb.cell (block_lt_of_cell a3)]; exact a3⟩
theorem szH_le (left : Int) (r : Hdr) : szH left r ≤ left ∨ szH left r = -1 := by
  unfold szH
  split
  · exact .inr rfl
  · split
    · exact .inr rfl
    · left; omega
theorem drop_hdr (l : List Hdr) (k : Nat) (r : Hdr) (h : l[k]? = some r) : l.drop k = r :: l.drop (k + 1) := by
  obtain ⟨hk, rfl⟩ := List.getElem?_eq_some_iff.1 h
  exact List.drop_eq_getElem_cons hk
set_option maxHeartbeats 2000000 in
theorem szHeaderS_any (w : World) (a : Option Addr) (cap : Nat) (l : List Hdr) (hl : l.length ≤ maxLen) (hi : l = [] ∨ ∃ b off, a = some ⟨b, off, none⟩ ∧ HeadsAt w b off l) (hz : SmallHdrs l) (left : Int) (h0 : 0 ≤ left) (h1 : left ≤ 1048576) :
    Calls Tryz.prog 40 #[.slice a l.length cap, .int .i64 left] w fun e w' => e = .returned (.int .i64 (szHL left l)) ∧ Below w.heap.size w w' := by
  unfold maxLen at hl
  have HI : Hid (l = [] ∨ ∃ b off, a = some ⟨b, off, none⟩ ∧ HeadsAt w b off l) := hi
  have HZ : Hid (SmallHdrs l) := hz
  clear hi hz
  generalize hn : l.length = n at *
  have HN : Hid (l.length = n) := hn
  by_cases c0 : left - (n : Int) < 0
  · have HE : Hid (szHL left l = -1) := by show _ = _; unfold szHL; rw [hn, if_pos c0]
    clear hn
    go_enter Tryz.func40, Tryz.ntmps40
    go_wp2
    go_ret
    exact ⟨ret_int HE.out.symm, Below.refl _ _⟩
  have HE : Hid (szHL left l = szHs (left - (n : Int)) l) := by show _ = _; unfold szHL; rw [hn, if_neg c0]
  have c0' : 0 ≤ left - (n : Int) := by omega
  clear hn
  go_enter Tryz.func40, Tryz.ntmps40
  go_wp2_with fail
  go_loopw [1, 5] (fun x i wr => ∃ (k : Nat) (c : Int), k ≤ n ∧ i = .int .i64 k ∧ x = .int .i64 c ∧ 0 ≤ c ∧ c ≤ 1048576 ∧ szHL left l = szHs c (l.drop k) ∧ Below w.heap.size w wr) (fun _ i _ => n - (intOf i).toNat)
  case atStart => exact ⟨0, left - (n : Int), Nat.zero_le _, rfl, rfl, c0', by omega, HE.out, Below.refl _ _⟩
  case round =>
    obtain ⟨k, c, hk, rfl, rfl, c2, c3, hs, hb⟩ := hrel
    have HS : Hid (szHL left l = szHs c (l.drop k)) := hs
    clear hs HE
    by_cases hlt : k < n
    · obtain ⟨r, hr⟩ : ∃ r, l[k]? = some r := ⟨l[k]'(by have := HN.out; omega), List.getElem?_eq_getElem _⟩
      rcases HI.out with h | ⟨b, off, rfl, hat⟩
      · subst h; simp at hr
      obtain ⟨p1, p3⟩ := (hat.keep hb) k r hr
      obtain ⟨z1, z2⟩ := HZ.out k r hr
      have HS2 : Hid (szHL left l = if szH c r < 0 then -1 else szHs (szH c r) (l.drop (k + 1))) := by
        show _ = _
        rw [HS.out, drop_hdr l k r hr, szHs]
      have HC : Hid (∀ w, Calls Tryz.prog 84 #[.agg #[.string r.name, .string r.value], .int .i64 c] w fun e w' => e = .returned (.int .i64 (szH c r)) ∧ Below w.heap.size w w') := fun w => szHeader_any r c w c2 c3 z1 z2
      have hle := szH_le c r
      have g : (k : Int) < n := by omega
      clear HS hr hat z1 z2 HI
      generalize szH c r = d at *
      generalize r.name = rn at *
      generalize r.value = rv at *
      go_wp2_with fail
      refine (HC.out _).mono ?_
      rintro e w2 ⟨rfl, hb2⟩
      have hbb : Below w.heap.size w w2 := hb.trans (hb2.mono hb.size)
      clear hb2 hb p1 p3 HC
      by_cases hd : d < 0
      · have HF : Hid (szHL left l = -1) := by show _ = _; rw [HS2.out, if_pos hd]
        clear HS2
        go_wp2_with fail
        go_ret
        exact ⟨ret_int HF.out.symm, hbb⟩
      · have HF : Hid (szHL left l = szHs d (l.drop (k + 1))) := by show _ = _; rw [HS2.out, if_neg hd]
        clear HS2
        go_wp2_with fail
        go_roundw
        case rel => exact ⟨k + 1, d, by omega, by go_num, rfl, by omega, by omega, HF.out, hbb⟩
        case measure => simp [intOf]; omega
    · have HF : Hid (szHL left l = c) := by
        show _ = _
        rw [HS.out, List.drop_of_length_le (by have := HN.out; omega), szHs]
      clear HS
      go_wp2_with fail
      go_ret
      exact ⟨ret_int HF.out.symm, hb⟩
end Go.Proofs.YtopkidfbkhjaeaaGreatDoor
/-
  The laws' copy of a list of items, and their comparing of two.
-/
namespace Go.Proofs.YtopkidfbkhjaeaaGreatDoor
open Go.ChangeShapes Go.WideShapes Go.ChangeAt Go.RowKit Go.Sort
/-- m cells from the head of block G on are there and may be written. -/
def HRoom (w : World) (G m : Nat) : Prop := ∀ j, j < m → (∃ u, w.cell? ⟨G, j, none⟩ = some u) ∧ w.frozen? ⟨G, j, none⟩ = false
theorem HRoom.keep {w w' : World} {G m : Nat} (h : HRoom w G m) (hb : Below w.heap.size w w') : HRoom w' G m := by
  intro j hj
  obtain ⟨⟨u, hu⟩, hf⟩ := h j hj
  exact ⟨⟨u, by rw [hb.cell (block_lt_of_cell hu)]; exact hu⟩, by rw [hb.frozen (block_lt_of_cell hu)]; exact hf⟩
theorem HRoom.set {w : World} {G m : Nat} (h : HRoom w G m) (a : Addr) (v : Value) : HRoom (w.setCell a v) G m := by
  intro j hj
  obtain ⟨⟨u, hu⟩, hf⟩ := h j hj
  refine ⟨?_, by rw [World.frozen?_setCell]; exact hf⟩
  by_cases e : a = ⟨G, j, none⟩
  · exact ⟨v, by subst e; exact World.cell?_setCell_same _ _ _ hu⟩
  · exact ⟨u, by rw [World.cell?_setCell_other _ _ _ _ e]; exact hu⟩
def put2 (w : World) (G k : Nat) (r : Hdr) : World := (w.setCell ⟨G, k * 2, none⟩ (.string r.name)).setCell ⟨G, k * 2 + 1, none⟩ (.string r.value)
theorem hoff_ne {G i j : Nat} (h : i ≠ j) : (⟨G, i, none⟩ : Addr) ≠ ⟨G, j, none⟩ := fun e => h (congrArg Addr.off e)
theorem put2_other (w : World) (G k : Nat) (r : Hdr) (j : Nat) (h0 : k * 2 ≠ j) (h1 : k * 2 + 1 ≠ j) : (put2 w G k r).cell? ⟨G, j, none⟩ = w.cell? ⟨G, j, none⟩ := by
  unfold put2
  rw [World.cell?_setCell_other _ _ _ _ (hoff_ne h1), World.cell?_setCell_other _ _ _ _ (hoff_ne h0)]
theorem HRoom.put {w : World} {G m : Nat} (h : HRoom w G m) (k : Nat) (r : Hdr) : HRoom (put2 w G k r) G m := (h.set _ _).set _ _
theorem HeadsAt.put {w : World} {G n : Nat} {l : List Hdr} {k : Nat} {r : Hdr} (h : HeadsAt w G 0 (l.take k)) (hr : l[k]? = some r) (hm : HRoom w G (n * 2)) (hk : k < n) : HeadsAt (put2 w G k r) G 0 (l.take (k + 1)) := by
  intro i q hq
  have hi : i < k + 1 := by
    have := (List.getElem?_eq_some_iff.1 hq).1
    simp at this; omega
  rw [List.getElem?_take_of_lt hi] at hq
  simp only [Nat.zero_add]
  by_cases e : i = k
  · subst e
    rw [hr] at hq
    obtain rfl := Option.some.inj hq
    obtain ⟨⟨u0, g0⟩, _⟩ := hm (i * 2) (by omega)
    obtain ⟨⟨u1, g1⟩, _⟩ := (hm.set ⟨G, i * 2, none⟩ (.string r.name)) (i * 2 + 1) (by omega)
    unfold put2
    refine ⟨?_, World.cell?_setCell_same _ _ _ g1⟩
    rw [World.cell?_setCell_other _ _ _ _ (hoff_ne (by omega))]
    exact World.cell?_setCell_same _ _ _ g0
  · have hq2 : (l.take k)[i]? = some q := by rw [List.getElem?_take_of_lt (by omega)]; exact hq
    obtain ⟨a1, a3⟩ := h i q hq2
    simp only [Nat.zero_add] at a1 a3
    exact ⟨by rw [put2_other _ _ _ _ _ (by omega) (by omega)]; exact a1, by rw [put2_other _ _ _ _ _ (by omega) (by omega)]; exact a3⟩
theorem infoHeader : (Tryz.prog.info? 108).map (fun i => (i.zero, i.size, i.bytes)) = some (some (.agg #[.string ⟨#[]⟩, .string ⟨#[]⟩]), 2, 32) := by kernel_rfl
set_option maxHeartbeats 2000000 in
theorem toHeaderS_any (w : World) (a : Option Addr) (cap : Nat) (l : List Hdr) (hl : l.length ≤ 1048576) (hi : l = [] ∨ ∃ b off, a = some ⟨b, off, none⟩ ∧ HeadsAt w b off l) :
    Calls Tryz.prog 44 #[.slice a l.length cap] w fun e w' => e = .returned (.slice (some ⟨w.heap.size, 0, none⟩) l.length l.length) ∧ HeadsAt w' w.heap.size 0 l ∧ Below w.heap.size w w' := by
  have HI : Hid (l = [] ∨ ∃ b off, a = some ⟨b, off, none⟩ ∧ HeadsAt w b off l) := hi
  obtain ⟨i0, hi0, hz0, hz1, hz2⟩ := info_parts infoHeader
  clear hi
  generalize hn : l.length = n at *
  have HN : Hid (l.length = n) := hn
  clear hn
  go_enter Tryz.func44, Tryz.ntmps44
  go_wp2_with (at_make; refine wpList_make_full w rfl _ _ 27 rfl w.heap.size 108 i0 _ 2 Tryz.underlying27 hi0 hz0 hz1 _ _ _ _ n rfl rfl rfl rfl (by rw [hz2]; omega) (by unfold maxLen; omega) (Nat.le_refl _) ?_; intro w1 hown hgrow)
  have HR1 : Hid (HRoom w1 w.heap.size (n * 2) ∧ Below w.heap.size w w1) := by
    refine ⟨fun j hj => ⟨?_, hown.frozenAt j⟩, (Below.refl _ _).grown hgrow (Nat.le_refl _) (fun q hq => by cases hq)⟩
    have h1 := hown.cellAt j hj
    have h2 : j < (madeCells (Value.agg #[.string ⟨#[]⟩, .string ⟨#[]⟩]).cells (n * 2)).toList.length := by have := hown.1; omega
    exact ⟨_, h1.trans (List.getElem?_eq_getElem h2)⟩
  clear hown hgrow
  go_loopw [4] (fun i wr => ∃ k : Nat, k ≤ n ∧ i = .int .i64 k ∧ HeadsAt wr w.heap.size 0 (l.take k) ∧ HRoom wr w.heap.size (n * 2) ∧ Below w.heap.size w wr) (fun i _ => n - (intOf i).toNat)
  case atStart => exact ⟨0, Nat.zero_le _, rfl, fun i r hr => by simp at hr, HR1.out.1, HR1.out.2⟩
  case round =>
    obtain ⟨k, hk, rfl, hat, hroom, hb⟩ := hrel
    clear HR1
    by_cases hlt : k < n
    · obtain ⟨r, hr⟩ : ∃ r, l[k]? = some r := ⟨l[k]'(by have := HN.out; omega), List.getElem?_eq_getElem _⟩
      rcases HI.out with h | ⟨b, off, rfl, hsrc⟩
      · subst h; simp at hr
      have hblt : b < w.heap.size := block_lt_of_cell (hsrc k r hr).1
      have hkeep := (hsrc.keep (w' := w) (Below.refl _ _)) k r hr
      have p1 : wr.cell? ⟨b, off + k * 2, none⟩ = some (.string r.name) := by rw [hb.cell (p := ⟨b, off + k * 2, none⟩) hblt]; exact hkeep.1
      have p3 : wr.cell? ⟨b, off + k * 2 + 1, none⟩ = some (.string r.value) := by rw [hb.cell (p := ⟨b, off + k * 2 + 1, none⟩) hblt]; exact hkeep.2
      have HA : Hid (HeadsAt wr w.heap.size 0 (l.take k)) := hat
      have HM : Hid (HRoom wr w.heap.size (n * 2)) := hroom
      have HR : Hid (l[k]? = some r) := hr
      have g : (k : Int) < n := by omega
      clear hat hroom hr hsrc hkeep HI
      go_wp2_with fail
      refine (toHeader_any r _).mono ?_
      rintro e w2 ⟨rfl, hb2⟩
      have HA2 : Hid (HeadsAt w2 w.heap.size 0 (l.take k)) := HA.out.keep hb2
      have HM2 : Hid (HRoom w2 w.heap.size (n * 2)) := HM.out.keep hb2
      have hbb : Below w.heap.size w w2 := hb.trans (hb2.mono hb.size)
      obtain ⟨⟨u0, g0⟩, f0⟩ := HM2.out (k * 2) (by omega)
      obtain ⟨⟨u1, g1⟩, f1⟩ := HM2.out (k * 2 + 1) (by omega)
      have HP : Hid (HeadsAt (put2 w2 w.heap.size k r) w.heap.size 0 (l.take (k + 1)) ∧ HRoom (put2 w2 w.heap.size k r) w.heap.size (n * 2)) := ⟨HA2.out.put HR.out HM2.out hlt, HM2.out.put k r⟩
      clear HA HM HA2 HM2 hb2 hb p1 p3
      obtain ⟨rn, rv⟩ := r
      go_wp2_with fail
      go_roundw
      case rel => exact ⟨k + 1, by omega, by go_num, HP.out.1, HP.out.2, (hbb.setCell (Nat.le_refl _) _).setCell (Nat.le_refl _) _⟩
      case measure => simp [intOf]; omega
    · have HF : Hid (HeadsAt wr w.heap.size 0 l) := by
        have e : l.take k = l := List.take_of_length_le (by have := HN.out; omega)
        rw [e] at hat
        exact hat
      clear hat hroom
      go_wp2_with fail
      go_ret
      exact ⟨rfl, HF.out, hb⟩
end Go.Proofs.YtopkidfbkhjaeaaGreatDoor
/-
  What the laws over lists of items share.
-/
namespace Go.Proofs.YtopkidfbkhjaeaaGreatDoor
open Go.ChangeShapes Go.WideShapes Go.ChangeAt Go.RowKit
/-- The slice at a holds the items l. -/
def HdsIn (w : World) (a : Option Addr) (l : List Hdr) : Prop := l = [] ∨ ∃ b off, a = some ⟨b, off, none⟩ ∧ HeadsAt w b off l
theorem HdsIn.keep {w w' : World} {a : Option Addr} {l : List Hdr} (h : HdsIn w a l) (hb : Below w.heap.size w w') : HdsIn w' a l := by
  rcases h with h | ⟨b, off, e, hat⟩
  · exact .inl h
  · exact .inr ⟨b, off, e, hat.keep hb⟩
theorem szH_room {left : Int} {r : Hdr} (h : ¬ szH left r < 0) : (r.name.size : Int) ≤ left ∧ (r.value.size : Int) ≤ left ∧ szH left r ≤ left := by
  by_cases c1 : left - (r.name.size : Int) < 0
  · rw [show szH left r = -1 from by simp [szH, c1]] at h; omega
  · by_cases c2 : left - (r.name.size : Int) - (r.value.size : Int) < 0
    · rw [show szH left r = -1 from by simp [szH, c1, c2]] at h; omega
    · have e : szH left r = left - (r.name.size : Int) - (r.value.size : Int) := by simp [szH, c1, c2]
      rw [e]
      omega
theorem szHs_room (l : List Hdr) : ∀ left : Int, ¬ szHs left l < 0 → left ≤ 1048576 → ∀ (i : Nat) r, l[i]? = some r → r.name.size ≤ 1048576 ∧ r.value.size ≤ 1048576 := by
  induction l with
  | nil => intro left _ _ i r hr; simp at hr
  | cons x l ih =>
    intro left h hl i r hr
    rw [szHs] at h
    by_cases c : szH left x < 0
    · rw [if_pos c] at h; omega
    · rw [if_neg c] at h
      obtain ⟨z1, z2, z3⟩ := szH_room c
      cases i with
      | zero => simp at hr; subst hr; omega
      | succ i => exact ih _ h (by omega) i r (by simpa using hr)
theorem szHL_room {l : List Hdr} {left : Int} (hl : left ≤ 1048576) (h : ¬ szHL left l < 0) : (l.length : Int) ≤ 1048576 ∧ ∀ (i : Nat) r, l[i]? = some r → r.name.size ≤ 1048576 ∧ r.value.size ≤ 1048576 := by
  unfold szHL at h
  by_cases c : left - (l.length : Int) < 0
  · rw [if_pos c] at h; omega
  · rw [if_neg c] at h
    exact ⟨by omega, szHs_room l _ h (by omega)⟩
theorem szHs_le (l : List Hdr) : ∀ left : Int, szHs left l ≤ left ∨ szHs left l < 0 := by
  induction l with
  | nil => intro left; exact .inl (Int.le_refl _)
  | cons x l ih =>
    intro left
    rw [szHs]
    by_cases c : szH left x < 0
    · rw [if_pos c]; right; decide
    · rw [if_neg c]
      have := (szH_room c).2.2
      rcases ih (szH left x) with h | h
      · left; omega
      · right; exact h
theorem szHL_le {l : List Hdr} {left : Int} (h : ¬ szHL left l < 0) : szHL left l ≤ left := by
  unfold szHL at h ⊢
  by_cases c : left - (l.length : Int) < 0
  · rw [if_pos c] at h; omega
  · rw [if_neg c] at h ⊢
    rcases szHs_le l (left - (l.length : Int)) with x | x <;> omega
end Go.Proofs.YtopkidfbkhjaeaaGreatDoor
/-
  A row of bytes in memory, and small letters: no function of the program in sight.
-/
namespace Go.Proofs.YtopkidfbkhjaeaaGreatDoor
/-- The block B holds the bytes l from its head on, none of them frozen. -/
structure BRow (w : World) (B : Nat) (l : List UInt8) : Prop where
  cell : ∀ j (hj : j < l.length), w.cell? ⟨B, j, none⟩ = some (.int .u8 (l[j].toNat : Int))
  free : ∀ j, j < l.length → w.frozen? ⟨B, j, none⟩ = false
theorem BRow.set {w : World} {B : Nat} {l : List UInt8} (h : BRow w B l) (k : Nat) (x : UInt8) : BRow (w.setCell ⟨B, k, none⟩ (.int .u8 (x.toNat : Int))) B (l.set k x) := by
  constructor
  · intro j hj
    simp only [List.length_set] at hj
    by_cases e : k = j
    · subst e
      rw [World.cell?_setCell_same _ _ _ (h.cell k hj)]
      simp
    · rw [World.cell?_setCell_other _ _ _ _ (by intro h2; exact e (congrArg Addr.off h2)), h.cell j hj, List.getElem_set_ne e]
  · intro j hj
    simp only [List.length_set] at hj
    rw [World.frozen?_setCell]
    exact h.free j hj
/-- What a conversion from a text lays. -/
theorem BRow.made (w : World) (s : ByteArray) (cap : Nat) (C : Array Value) (hC : C = bytesRow s cap) : BRow (w.alloc (.cells C 5 (C.size, C.size + 1))) w.heap.size s.data.toList := by
  subst hC
  have hsz : s.data.size ≤ (bytesRow s cap).size := by simp [bytesRow]
  constructor
  · intro j hj
    have hj' : j < s.data.size := by simpa using hj
    rw [World.cell?_alloc_mark, bytesRow_at s cap j hj']
    simp
  · intro j hj
    have hj' : j < s.data.size := by simpa using hj
    rw [World.frozen?_alloc_mark]
    simp
    omega
theorem BRow.back {P : Program} {w : World} {B : Nat} {l : List UInt8} (h : BRow w B l) (src dst e : TypeId) (n cap : Nat) (hn : n = l.length) (hs : P.underlying src = some (.slice e)) (he : P.underlying e = some (.int .u8)) (hd : P.underlying dst = some .string) :
    (convert src dst (.slice (some ⟨B, 0, none⟩) n cap)).run P w = .ok (.string ⟨l.toArray⟩) w := by
  subst hn
  refine run_convert_bytes_back w src dst e ⟨B, 0, none⟩ cap l hs he hd ?_
  intro j hj
  have := h.cell j hj
  by_cases e : j = 0
  · subst e; simpa [Addr.add] using this
  · simpa [Addr.add, e] using this
def lowU (c : UInt8) : UInt8 := if 65 ≤ (c.toNat : Int) ∧ (c.toNat : Int) ≤ 90 then UInt8.ofNat (c.toNat + 32) else c
theorem lowU_yes (c : UInt8) (h1 : 65 ≤ (c.toNat : Int)) (h2 : (c.toNat : Int) ≤ 90) : ((lowU c).toNat : Int) = (c.toNat : Int) + 32 := by
  unfold lowU
  rw [if_pos ⟨h1, h2⟩]
  simp
  omega
theorem lowU_no (c : UInt8) (h : ¬ (65 ≤ (c.toNat : Int) ∧ (c.toNat : Int) ≤ 90)) : lowU c = c := by
  unfold lowU
  rw [if_neg h]
/-- The bytes behind k rounds. -/
def lowK (l : List UInt8) (k : Nat) : List UInt8 := (l.take k).map lowU ++ l.drop k
theorem lowK_zero (l : List UInt8) : lowK l 0 = l := by simp [lowK]
theorem lowK_all (l : List UInt8) (k : Nat) (h : l.length ≤ k) : lowK l k = l.map lowU := by
  simp [lowK, List.take_of_length_le h, List.drop_of_length_le h]
theorem lowK_length (l : List UInt8) (k : Nat) : (lowK l k).length = l.length := by simp [lowK]; omega
theorem lowK_at? (l : List UInt8) (k : Nat) (h : k < l.length) : (lowK l k)[k]? = some l[k] := by
  unfold lowK
  rw [List.getElem?_append_right (by simp; omega)]
  simp [Nat.min_eq_left (Nat.le_of_lt h)]
theorem lowK_at (l : List UInt8) (k : Nat) (h : k < l.length) (h' : k < (lowK l k).length) : (lowK l k)[k] = l[k] := by
  have := lowK_at? l k h
  rw [List.getElem?_eq_getElem h'] at this
  exact Option.some.inj this
theorem lowK_succ (l : List UInt8) (k : Nat) (h : k < l.length) : lowK l (k + 1) = (lowK l k).set k (lowU l[k]) := by
  have hm : min k l.length = k := Nat.min_eq_left (Nat.le_of_lt h)
  unfold lowK
  rw [List.take_succ_eq_append_getElem h, List.map_append, List.drop_eq_getElem_cons h]
  rw [List.set_append_right _ _ (by simp [hm])]
  simp only [List.length_map, List.length_take, hm, Nat.sub_self, List.set_cons_zero, List.map_cons, List.map_nil, List.append_assoc, List.cons_append, List.nil_append]
theorem lowK_keep (l : List UInt8) (k : Nat) (h : k < l.length) (hn : ¬ (65 ≤ (l[k].toNat : Int) ∧ (l[k].toNat : Int) ≤ 90)) : lowK l (k + 1) = lowK l k := by
  have h2 : k < (lowK l k).length := by rw [lowK_length]; exact h
  rw [lowK_succ l k h, lowU_no _ hn, ← lowK_at l k h h2, List.set_getElem_self]
end Go.Proofs.YtopkidfbkhjaeaaGreatDoor
/-
  Rows of bytes: the laws' own helpers over them.
-/
namespace Go.Proofs.YtopkidfbkhjaeaaGreatDoor
open Go.ChangeShapes Go.WideShapes Go.ChangeAt Go.RowKit Go.Sort
def BAt (w : World) (b off : Nat) (l : List UInt8) : Prop := ∀ (i : Nat) c, l[i]? = some c → w.cell? ⟨b, off + i, none⟩ = some (.int .u8 (c.toNat : Int))
theorem BAt.keep {w w' : World} {b off : Nat} {l : List UInt8} (h : BAt w b off l) (hb : Below w.heap.size w w') : BAt w' b off l := by
  intro i c hc
  have := h i c hc
  rw [hb.cell (block_lt_of_cell this)]; exact this
def BIn (w : World) (a : Option Addr) (l : List UInt8) : Prop := l = [] ∨ ∃ b off, a = some ⟨b, off, none⟩ ∧ BAt w b off l
theorem BIn.keep {w w' : World} {a : Option Addr} {l : List UInt8} (h : BIn w a l) (hb : Below w.heap.size w w') : BIn w' a l := by
  rcases h with h | ⟨b, off, e, h⟩
  · exact .inl h
  · exact .inr ⟨b, off, e, h.keep hb⟩
structure BMine (W : World) (B : Nat) (l : List UInt8) : Prop where
  at0 : BAt W B 0 l
  free : ∀ o, o < l.length → W.frozen? ⟨B, o, none⟩ = false
  lt : B < W.heap.size
theorem BMine.keep {W W' : World} {B : Nat} {l : List UInt8} (h : BMine W B l) (hb : Below W.heap.size W W') : BMine W' B l :=
  ⟨h.at0.keep hb, fun o ho => by rw [hb.frozen (p := ⟨B, o, none⟩) h.lt]; exact h.free o ho, Nat.lt_of_lt_of_le h.lt hb.size⟩
theorem BMine.in {W : World} {B : Nat} {l : List UInt8} (h : BMine W B l) : BIn W (some ⟨B, 0, none⟩) l := .inr ⟨B, 0, rfl, h.at0⟩
set_option maxHeartbeats 400000 in
theorem szByteS_any (a : Option Addr) (n cap : Nat) (left : Int) (w : World) (h0 : 0 ≤ left) (h1 : left ≤ 1048576) (hn : n ≤ maxLen) :
    Calls Tryz.prog 41 #[.slice a n cap, .int .i64 left] w fun e w' => e = .returned (.int .i64 (if left - (n : Int) < 0 then -1 else left - (n : Int))) ∧ w' = w := by
  unfold maxLen at hn
  by_cases c : left - (n : Int) < 0
  · rw [if_pos c]
    go_enter Tryz.func41, Tryz.ntmps41
    go_wp2
    go_ret
    exact ⟨rfl, rfl⟩
  · rw [if_neg c]
    go_enter Tryz.func41, Tryz.ntmps41
    go_wp2
    go_ret
    exact ⟨rfl, rfl⟩
theorem infoByteR : (Tryz.prog.info? 5).map (fun i => (i.zero, i.size, i.bytes)) = some (some (.int .u8 0), 1, 1) := by kernel_rfl
theorem BAt.put {w : World} {G : Nat} {l : List UInt8} {k n : Nat} {c : UInt8} (h : BAt w G 0 (l.take k)) (hr : l[k]? = some c) (hm : HRoom w G n) (hk : k < n) : BAt (w.setCell ⟨G, k, none⟩ (.int .u8 (c.toNat : Int))) G 0 (l.take (k + 1)) := by
  intro i q hq
  have hi : i < k + 1 := by
    have := (List.getElem?_eq_some_iff.1 hq).1
    simp at this; omega
  rw [List.getElem?_take_of_lt hi] at hq
  simp only [Nat.zero_add]
  by_cases e : i = k
  · subst e
    rw [hr] at hq
    obtain rfl := Option.some.inj hq
    obtain ⟨⟨u0, g0⟩, _⟩ := hm i (by omega)
    exact World.cell?_setCell_same _ _ _ g0
  · have hq2 : (l.take k)[i]? = some q := by rw [List.getElem?_take_of_lt (by omega)]; exact hq
    have a1 := h i q hq2
    simp only [Nat.zero_add] at a1
    rw [World.cell?_setCell_other _ _ _ _ (hoff_ne (by omega))]; exact a1
set_option maxHeartbeats 2000000 in
theorem toByteS_any (w : World) (a : Option Addr) (cap : Nat) (l : List UInt8) (hl : l.length ≤ 1048576) (hi : BIn w a l) :
    Calls Tryz.prog 45 #[.slice a l.length cap] w fun e w' => e = .returned (.slice (some ⟨w.heap.size, 0, none⟩) l.length l.length) ∧ BMine w' w.heap.size l ∧ Below w.heap.size w w' := by
  have HI : Hid (BIn w a l) := hi
  obtain ⟨i0, hi0, hz0, hz1, hz2⟩ := info_parts infoByteR
  clear hi
  generalize hn : l.length = n at *
  have HN : Hid (l.length = n) := hn
  clear hn
  go_enter Tryz.func45, Tryz.ntmps45
  go_wp2_with (at_make; refine wpList_make_full w rfl _ _ 23 rfl w.heap.size 5 i0 _ 1 Tryz.underlying23 hi0 hz0 hz1 _ _ _ _ n rfl rfl rfl rfl (by rw [hz2]; omega) (by unfold maxLen; omega) (Nat.le_refl _) ?_; intro w1 hown hgrow)
  have HR1 : Hid (HRoom w1 w.heap.size n ∧ (w.heap.size < w1.heap.size ∧ ∀ o, w1.frozen? ⟨w.heap.size, o, none⟩ = false) ∧ Below w.heap.size w w1) := by
    refine ⟨fun j hj => ⟨?_, hown.frozenAt j⟩, ⟨?lt, fun o => hown.frozenAt o⟩, (Below.refl _ _).grown hgrow (Nat.le_refl _) (fun q hq => by cases hq)⟩
    case lt =>
      obtain ⟨_, h | ⟨g, c, cur, e, _, hh, _⟩⟩ := hown
      · cases h.1
      · simp only [Value.slice.injEq, Option.some.injEq] at e
        have e1 := congrArg Addr.block e.1
        simp only at e1
        rw [e1]
        exact (Array.getElem?_eq_some_iff.1 hh).1
    have h1 := hown.cellAt j (by omega)
    have h2 : j < (madeCells (Value.int .u8 0).cells (n * 1)).toList.length := by have := hown.1; omega
    exact ⟨_, h1.trans (List.getElem?_eq_getElem h2)⟩
  clear hown hgrow
  go_loopw [4] (fun i wr => ∃ k : Nat, k ≤ n ∧ i = .int .i64 k ∧ BAt wr w.heap.size 0 (l.take k) ∧ HRoom wr w.heap.size n ∧ (w.heap.size < wr.heap.size ∧ ∀ o, wr.frozen? ⟨w.heap.size, o, none⟩ = false) ∧ Below w.heap.size w wr) (fun i _ => n - (intOf i).toNat)
  case atStart => exact ⟨0, Nat.zero_le _, rfl, fun i r hr => by simp at hr, HR1.out.1, HR1.out.2.1, HR1.out.2.2⟩
  case round =>
    obtain ⟨k, hk, rfl, hat, hroom, hfr, hb⟩ := hrel
    have HFR : Hid (w.heap.size < wr.heap.size ∧ ∀ o, wr.frozen? ⟨w.heap.size, o, none⟩ = false) := hfr
    clear hfr HR1
    by_cases hlt : k < n
    · obtain ⟨c, hr⟩ : ∃ r, l[k]? = some r := ⟨l[k]'(by have := HN.out; omega), List.getElem?_eq_getElem _⟩
      rcases HI.out with h | ⟨b, off, rfl, hsrc⟩
      · subst h; simp at hr
      have p1 := hsrc k c hr
      have hblt : b < w.heap.size := block_lt_of_cell p1
      have p2 : wr.cell? ⟨b, off + k, none⟩ = some (.int .u8 (c.toNat : Int)) := by rw [hb.cell (p := ⟨b, off + k, none⟩) hblt]; exact p1
      obtain ⟨⟨u0, g0⟩, f0⟩ := hroom k (by omega)
      have HP : Hid (BAt (wr.setCell ⟨w.heap.size, k, none⟩ (.int .u8 (c.toNat : Int))) w.heap.size 0 (l.take (k + 1)) ∧ HRoom (wr.setCell ⟨w.heap.size, k, none⟩ (.int .u8 (c.toNat : Int))) w.heap.size n) := ⟨hat.put hr hroom hlt, hroom.set _ _⟩
      have g : (k : Int) < n := by omega
      have HB : Hid (Below w.heap.size w wr) := hb
      clear hat hroom hr hsrc p1 HI hb
      generalize (c.toNat : Int) = cv at *
      go_wp2_with fail
      go_roundw
      case rel => exact ⟨k + 1, by omega, by go_num, HP.out.1, HP.out.2, ⟨by simpa using HFR.out.1, fun o => by rw [World.frozen?_setCell]; exact HFR.out.2 o⟩, HB.out.setCell (Nat.le_refl _) _⟩
      case measure => simp [intOf]; omega
    · have HF : Hid (BMine wr w.heap.size l) := by
        have e : l.take k = l := List.take_of_length_le (by have := HN.out; omega)
        rw [e] at hat
        exact ⟨hat, fun o _ => HFR.out.2 o, HFR.out.1⟩
      clear hat hroom
      go_wp2_with fail
      go_ret
      exact ⟨rfl, HF.out, hb⟩
set_option maxHeartbeats 2000000 in
theorem eqByteS_same (w : World) (a1 a2 : Option Addr) (c1 c2 : Nat) (l : List UInt8) (hl : l.length ≤ 1048576) (h1 : BIn w a1 l) (h2 : BIn w a2 l) :
    Calls Tryz.prog 51 #[.slice a1 l.length c1, .slice a2 l.length c2] w fun e w' => e = .returned (.bool true) ∧ Below w.heap.size w w' := by
  have H1 : Hid (BIn w a1 l) := h1
  have H2 : Hid (BIn w a2 l) := h2
  clear h1 h2
  generalize hn : l.length = n at *
  have HN : Hid (l.length = n) := hn
  clear hn
  go_enter Tryz.func51, Tryz.ntmps51
  go_wp2_with fail
  go_loopw [5] (fun i wr => ∃ k : Nat, k ≤ n ∧ i = .int .i64 k ∧ Below w.heap.size w wr) (fun i _ => n - (intOf i).toNat)
  case atStart => exact ⟨0, Nat.zero_le _, rfl, Below.refl _ _⟩
  case round =>
    obtain ⟨k, hk, rfl, hb⟩ := hrel
    by_cases hlt : k < n
    · obtain ⟨r, hr⟩ : ∃ r, l[k]? = some r := ⟨l[k]'(by have := HN.out; omega), List.getElem?_eq_getElem _⟩
      rcases H1.out with h | ⟨b1, o1, rfl, hs1⟩
      · subst h; simp at hr
      rcases H2.out with h | ⟨b2, o2, rfl, hs2⟩
      · subst h; simp at hr
      have p1 := (hs1.keep hb) k r hr
      have p2 := (hs2.keep hb) k r hr
      have x1 := cell_regrown p1
      have x2 := cell_regrown p2
      have g0 : (0 : Int) ≤ k := by omega
      have g : (k : Int) < n := by omega
      clear hr p1 p2 hs1 hs2 H1 H2
      generalize (r.toNat : Int) = cv at *
      go_wp2_with fail
      refine wp_region_quiet_below (by kernel_rfl) (by kernel_rfl) ?_
      repeat (go_big_quiet_step (first | fail))
      refine wpQuiet_nil ?_
      intro w2 hw2
      have hbb : Below w.heap.size w w2 := by
        obtain ⟨⟨d, os⟩, rfl⟩ := hw2
        exact hb.trans ((below_regrown wr d os).mono hb.size)
      clear x1 x2 hw2 hb
      go_wp2_with fail
      go_roundw
      case rel => exact ⟨k + 1, by omega, by go_num, hbb⟩
      case measure => simp [intOf]; omega
    · go_wp2_with fail
      go_ret
      exact ⟨rfl, hb⟩
end Go.Proofs.YtopkidfbkhjaeaaGreatDoor
/-
  Rows of texts: the laws' own helpers over them.
-/
namespace Go.Proofs.YtopkidfbkhjaeaaGreatDoor
open Go.ChangeShapes Go.WideShapes Go.ChangeAt Go.RowKit Go.Sort
def TAt (w : World) (b off : Nat) (l : List ByteArray) : Prop := ∀ (i : Nat) c, l[i]? = some c → w.cell? ⟨b, off + i, none⟩ = some (.string c)
theorem TAt.keep {w w' : World} {b off : Nat} {l : List ByteArray} (h : TAt w b off l) (hb : Below w.heap.size w w') : TAt w' b off l := by
  intro i c hc
  have := h i c hc
  rw [hb.cell (block_lt_of_cell this)]; exact this
def TIn (w : World) (a : Option Addr) (l : List ByteArray) : Prop := l = [] ∨ ∃ b off, a = some ⟨b, off, none⟩ ∧ TAt w b off l
theorem TIn.keep {w w' : World} {a : Option Addr} {l : List ByteArray} (h : TIn w a l) (hb : Below w.heap.size w w') : TIn w' a l := by
  rcases h with h | ⟨b, off, e, h⟩
  · exact .inl h
  · exact .inr ⟨b, off, e, h.keep hb⟩
structure TMine (W : World) (B : Nat) (l : List ByteArray) : Prop where
  at0 : TAt W B 0 l
  free : ∀ o, o < l.length → W.frozen? ⟨B, o, none⟩ = false
  lt : B < W.heap.size
theorem TMine.keep {W W' : World} {B : Nat} {l : List ByteArray} (h : TMine W B l) (hb : Below W.heap.size W W') : TMine W' B l :=
  ⟨h.at0.keep hb, fun o ho => by rw [hb.frozen (p := ⟨B, o, none⟩) h.lt]; exact h.free o ho, Nat.lt_of_lt_of_le h.lt hb.size⟩
theorem TMine.in {W : World} {B : Nat} {l : List ByteArray} (h : TMine W B l) : TIn W (some ⟨B, 0, none⟩) l := .inr ⟨B, 0, rfl, h.at0⟩
/-- How much room is left behind the texts; -1: none. -/
def szTs (left : Int) : List ByteArray → Int
  | [] => left
  | r :: l => if left - (r.size : Int) < 0 then -1 else szTs (left - (r.size : Int)) l
def szTL (left : Int) (l : List ByteArray) : Int := if left - (l.length : Int) < 0 then -1 else szTs (left - (l.length : Int)) l
theorem szTs_le (l : List ByteArray) : ∀ left, szTs left l ≤ left ∨ szTs left l = -1 := by
  induction l with
  | nil => intro left; exact .inl (Int.le_refl _)
  | cons r l ih =>
    intro left
    rw [szTs]
    split
    · exact .inr rfl
    · rcases ih (left - (r.size : Int)) with h | h
      · left; omega
      · exact .inr h
theorem szTL_room {left : Int} {l : List ByteArray} (hl : left ≤ 1048576) (hz : ¬ szTL left l < 0) : l.length ≤ 1048576 ∧ ∀ x ∈ l, x.size ≤ 1048576 := by
  unfold szTL at hz
  by_cases c : left - (l.length : Int) < 0
  · rw [if_pos c] at hz; omega
  · rw [if_neg c] at hz
    refine ⟨by omega, ?_⟩
    have : ∀ (l : List ByteArray) (left : Int), left ≤ 1048576 → ¬ szTs left l < 0 → ∀ x ∈ l, x.size ≤ 1048576 := fun l => by
      induction l with
      | nil => intro _ _ _ x hx; cases hx
      | cons r l ih =>
        intro left h1 h2 x hx
        rw [szTs] at h2
        by_cases c : left - (r.size : Int) < 0
        · rw [if_pos c] at h2; omega
        · rw [if_neg c] at h2
          rcases List.mem_cons.1 hx with rfl | hx
          · omega
          · exact ih _ (by omega) h2 x hx
    exact this l _ (by omega) hz
set_option maxHeartbeats 2000000 in
theorem szStringS_any (w : World) (a : Option Addr) (cap : Nat) (l : List ByteArray) (hl : l.length ≤ maxLen) (hi : TIn w a l) (hz : ∀ x ∈ l, x.size ≤ maxLen) (left : Int) (h0 : 0 ≤ left) (h1 : left ≤ 1048576) :
    Calls Tryz.prog 55 #[.slice a l.length cap, .int .i64 left] w fun e w' => e = .returned (.int .i64 (szTL left l)) ∧ Below w.heap.size w w' := by
  unfold maxLen at hl
  have HI : Hid (TIn w a l) := hi
  have HZ : Hid (∀ x ∈ l, x.size ≤ maxLen) := hz
  clear hi hz
  generalize hn : l.length = n at *
  have HN : Hid (l.length = n) := hn
  by_cases c0 : left - (n : Int) < 0
  · have HE : Hid (szTL left l = -1) := by show _ = _; unfold szTL; rw [hn, if_pos c0]
    clear hn
    go_enter Tryz.func55, Tryz.ntmps55
    go_wp2
    go_ret
    exact ⟨ret_int HE.out.symm, Below.refl _ _⟩
  have HE : Hid (szTL left l = szTs (left - (n : Int)) l) := by show _ = _; unfold szTL; rw [hn, if_neg c0]
  have c0' : 0 ≤ left - (n : Int) := by omega
  clear hn
  go_enter Tryz.func55, Tryz.ntmps55
  go_wp2_with fail
  go_loopw [1, 5] (fun x i wr => ∃ (k : Nat) (c : Int), k ≤ n ∧ i = .int .i64 k ∧ x = .int .i64 c ∧ 0 ≤ c ∧ c ≤ 1048576 ∧ szTL left l = szTs c (l.drop k) ∧ Below w.heap.size w wr) (fun _ i _ => n - (intOf i).toNat)
  case atStart => exact ⟨0, left - (n : Int), Nat.zero_le _, rfl, rfl, c0', by omega, HE.out, Below.refl _ _⟩
  case round =>
    obtain ⟨k, c, hk, rfl, rfl, c2, c3, hs, hb⟩ := hrel
    have HS : Hid (szTL left l = szTs c (l.drop k)) := hs
    clear hs HE
    by_cases hlt : k < n
    · obtain ⟨r, hr⟩ : ∃ r, l[k]? = some r := ⟨l[k]'(by have := HN.out; omega), List.getElem?_eq_getElem _⟩
      rcases HI.out with h | ⟨b, off, rfl, hat⟩
      · subst h; simp at hr
      have p1 := (hat.keep hb) k r hr
      have z1 := HZ.out r (List.mem_of_getElem? hr)
      have HS2 : Hid (szTL left l = if c - (r.size : Int) < 0 then -1 else szTs (c - (r.size : Int)) (l.drop (k + 1))) := by
        show _ = _
        obtain ⟨hk2, hr2⟩ := List.getElem?_eq_some_iff.1 hr
        rw [HS.out, List.drop_eq_getElem_cons hk2, hr2, szTs]
      have g : (k : Int) < n := by omega
      unfold maxLen at z1
      clear HS hr hat HI HZ
      by_cases hd : c - (r.size : Int) < 0
      · have HF : Hid (szTL left l = -1) := by show _ = _; rw [HS2.out, if_pos hd]
        clear HS2
        go_wp2_with fail
        go_ret
        exact ⟨ret_int HF.out.symm, hb⟩
      · have HF : Hid (szTL left l = szTs (c - (r.size : Int)) (l.drop (k + 1))) := by show _ = _; rw [HS2.out, if_neg hd]
        clear HS2
        go_wp2_with fail
        go_roundw
        case rel => exact ⟨k + 1, c - (r.size : Int), by omega, by go_num, rfl, by omega, by omega, HF.out, hb⟩
        case measure => simp [intOf]; omega
    · have HF : Hid (szTL left l = c) := by
        show _ = _
        rw [HS.out, List.drop_of_length_le (by have := HN.out; omega), szTs]
      clear HS
      go_wp2_with fail
      go_ret
      exact ⟨ret_int HF.out.symm, hb⟩
theorem infoTextR : (Tryz.prog.info? 9).map (fun i => (i.zero, i.size, i.bytes)) = some (some (.string ⟨#[]⟩), 1, 16) := by kernel_rfl
theorem TAt.put {w : World} {G : Nat} {l : List ByteArray} {k n : Nat} {c : ByteArray} (h : TAt w G 0 (l.take k)) (hr : l[k]? = some c) (hm : HRoom w G n) (hk : k < n) : TAt (w.setCell ⟨G, k, none⟩ (.string c)) G 0 (l.take (k + 1)) := by
  intro i q hq
  have hi : i < k + 1 := by
    have := (List.getElem?_eq_some_iff.1 hq).1
    simp at this; omega
  rw [List.getElem?_take_of_lt hi] at hq
  simp only [Nat.zero_add]
  by_cases e : i = k
  · subst e
    rw [hr] at hq
    obtain rfl := Option.some.inj hq
    obtain ⟨⟨u0, g0⟩, _⟩ := hm i (by omega)
    exact World.cell?_setCell_same _ _ _ g0
  · have hq2 : (l.take k)[i]? = some q := by rw [List.getElem?_take_of_lt (by omega)]; exact hq
    have a1 := h i q hq2
    simp only [Nat.zero_add] at a1
    rw [World.cell?_setCell_other _ _ _ _ (hoff_ne (by omega))]; exact a1
set_option maxHeartbeats 2000000 in
theorem toStringS_any (w : World) (a : Option Addr) (cap : Nat) (l : List ByteArray) (hl : l.length ≤ 1048576) (hi : TIn w a l) :
    Calls Tryz.prog 60 #[.slice a l.length cap] w fun e w' => e = .returned (.slice (some ⟨w.heap.size, 0, none⟩) l.length l.length) ∧ TMine w' w.heap.size l ∧ Below w.heap.size w w' := by
  have HI : Hid (TIn w a l) := hi
  obtain ⟨i0, hi0, hz0, hz1, hz2⟩ := info_parts infoTextR
  clear hi
  generalize hn : l.length = n at *
  have HN : Hid (l.length = n) := hn
  clear hn
  go_enter Tryz.func60, Tryz.ntmps60
  go_wp2_with (at_make; refine wpList_make_full w rfl _ _ 43 rfl w.heap.size 9 i0 _ 1 Tryz.underlying43 hi0 hz0 hz1 _ _ _ _ n rfl rfl rfl rfl (by rw [hz2]; omega) (by unfold maxLen; omega) (Nat.le_refl _) ?_; intro w1 hown hgrow)
  have HR1 : Hid (HRoom w1 w.heap.size n ∧ (w.heap.size < w1.heap.size ∧ ∀ o, w1.frozen? ⟨w.heap.size, o, none⟩ = false) ∧ Below w.heap.size w w1) := by
    refine ⟨fun j hj => ⟨?_, hown.frozenAt j⟩, ⟨?lt, fun o => hown.frozenAt o⟩, (Below.refl _ _).grown hgrow (Nat.le_refl _) (fun q hq => by cases hq)⟩
    case lt =>
      obtain ⟨_, h | ⟨g, c, cur, e, _, hh, _⟩⟩ := hown
      · cases h.1
      · simp only [Value.slice.injEq, Option.some.injEq] at e
        have e1 := congrArg Addr.block e.1
        simp only at e1
        rw [e1]
        exact (Array.getElem?_eq_some_iff.1 hh).1
    have h1 := hown.cellAt j (by omega)
    have h2 : j < (madeCells (Value.string ⟨#[]⟩).cells (n * 1)).toList.length := by have := hown.1; omega
    exact ⟨_, h1.trans (List.getElem?_eq_getElem h2)⟩
  clear hown hgrow
  go_loopw [4] (fun i wr => ∃ k : Nat, k ≤ n ∧ i = .int .i64 k ∧ TAt wr w.heap.size 0 (l.take k) ∧ HRoom wr w.heap.size n ∧ (w.heap.size < wr.heap.size ∧ ∀ o, wr.frozen? ⟨w.heap.size, o, none⟩ = false) ∧ Below w.heap.size w wr) (fun i _ => n - (intOf i).toNat)
  case atStart => exact ⟨0, Nat.zero_le _, rfl, fun i r hr => by simp at hr, HR1.out.1, HR1.out.2.1, HR1.out.2.2⟩
  case round =>
    obtain ⟨k, hk, rfl, hat, hroom, hfr, hb⟩ := hrel
    have HFR : Hid (w.heap.size < wr.heap.size ∧ ∀ o, wr.frozen? ⟨w.heap.size, o, none⟩ = false) := hfr
    clear hfr HR1
    by_cases hlt : k < n
    · obtain ⟨c, hr⟩ : ∃ r, l[k]? = some r := ⟨l[k]'(by have := HN.out; omega), List.getElem?_eq_getElem _⟩
      rcases HI.out with h | ⟨b, off, rfl, hsrc⟩
      · subst h; simp at hr
      have p1 := hsrc k c hr
      have hblt : b < w.heap.size := block_lt_of_cell p1
      have p2 : wr.cell? ⟨b, off + k, none⟩ = some (.string c) := by rw [hb.cell (p := ⟨b, off + k, none⟩) hblt]; exact p1
      obtain ⟨⟨u0, g0⟩, f0⟩ := hroom k (by omega)
      have HP : Hid (TAt (wr.setCell ⟨w.heap.size, k, none⟩ (.string c)) w.heap.size 0 (l.take (k + 1)) ∧ HRoom (wr.setCell ⟨w.heap.size, k, none⟩ (.string c)) w.heap.size n) := ⟨hat.put hr hroom hlt, hroom.set _ _⟩
      have g : (k : Int) < n := by omega
      have HB : Hid (Below w.heap.size w wr) := hb
      clear hat hroom hr hsrc p1 HI hb
      go_wp2_with fail
      go_roundw
      case rel => exact ⟨k + 1, by omega, by go_num, HP.out.1, HP.out.2, ⟨by simpa using HFR.out.1, fun o => by rw [World.frozen?_setCell]; exact HFR.out.2 o⟩, HB.out.setCell (Nat.le_refl _) _⟩
      case measure => simp [intOf]; omega
    · have HF : Hid (TMine wr w.heap.size l) := by
        have e : l.take k = l := List.take_of_length_le (by have := HN.out; omega)
        rw [e] at hat
        exact ⟨hat, fun o _ => HFR.out.2 o, HFR.out.1⟩
      clear hat hroom
      go_wp2_with fail
      go_ret
      exact ⟨rfl, HF.out, hb⟩
set_option maxHeartbeats 2000000 in
theorem eqStringS_same (w : World) (a1 a2 : Option Addr) (c1 c2 : Nat) (l : List ByteArray) (hl : l.length ≤ 1048576) (h1 : TIn w a1 l) (h2 : TIn w a2 l) :
    Calls Tryz.prog 68 #[.slice a1 l.length c1, .slice a2 l.length c2] w fun e w' => e = .returned (.bool true) ∧ Below w.heap.size w w' := by
  have H1 : Hid (TIn w a1 l) := h1
  have H2 : Hid (TIn w a2 l) := h2
  clear h1 h2
  generalize hn : l.length = n at *
  have HN : Hid (l.length = n) := hn
  clear hn
  go_enter Tryz.func68, Tryz.ntmps68
  go_wp2_with fail
  go_loopw [5] (fun i wr => ∃ k : Nat, k ≤ n ∧ i = .int .i64 k ∧ Below w.heap.size w wr) (fun i _ => n - (intOf i).toNat)
  case atStart => exact ⟨0, Nat.zero_le _, rfl, Below.refl _ _⟩
  case round =>
    obtain ⟨k, hk, rfl, hb⟩ := hrel
    by_cases hlt : k < n
    · obtain ⟨r, hr⟩ : ∃ r, l[k]? = some r := ⟨l[k]'(by have := HN.out; omega), List.getElem?_eq_getElem _⟩
      rcases H1.out with h | ⟨b1, o1, rfl, hs1⟩
      · subst h; simp at hr
      rcases H2.out with h | ⟨b2, o2, rfl, hs2⟩
      · subst h; simp at hr
      have p1 := (hs1.keep hb) k r hr
      have p2 := (hs2.keep hb) k r hr
      have x1 := cell_regrown p1
      have x2 := cell_regrown p2
      have g0 : (0 : Int) ≤ k := by omega
      have g : (k : Int) < n := by omega
      clear hr p1 p2 hs1 hs2 H1 H2
      go_wp2_with fail
      refine wp_region_quiet_below (by kernel_rfl) (by kernel_rfl) ?_
      repeat (go_big_quiet_step (first | fail))
      refine wpQuiet_nil ?_
      intro w2 hw2
      have hbb : Below w.heap.size w w2 := by
        obtain ⟨⟨d, os⟩, rfl⟩ := hw2
        exact hb.trans ((below_regrown wr d os).mono hb.size)
      clear x1 x2 hw2 hb
      go_wp2_with fail
      go_roundw
      case rel => exact ⟨k + 1, by omega, by go_num, hbb⟩
      case measure => simp [intOf]; omega
    · go_wp2_with fail
      go_ret
      exact ⟨rfl, hb⟩
end Go.Proofs.YtopkidfbkhjaeaaGreatDoor
/-
  Entries of a store, as they lie in memory.
-/
namespace Go.Proofs.YtopkidfbkhjaeaaGreatDoor
open Go.ChangeShapes Go.WideShapes Go.ChangeAt Go.RowKit Go.Sort
/-- An entry, plainly. -/
structure Ent where
  key : ByteArray
  st : Int
  hs : List Hdr
  bl : List UInt8
  t : Int
  g : Int
  l : Int
  s : Int
  e : Int
  b1 : Bool
  b2 : Bool
  ts : List ByteArray
  pins : Int
/-- Where its lists lie. -/
structure EntR where
  ha : Option Addr
  hc : Nat
  ba : Option Addr
  bc : Nat
  ta : Option Addr
  tc : Nat
def entW (x : Ent) (r : EntR) : List Value := [.string x.key, .int .i64 x.st, .slice r.ha x.hs.length r.hc, .slice r.ba x.bl.length r.bc, .int .i64 x.t, .int .i64 x.g, .int .i64 x.l, .int .i64 x.s, .int .i64 x.e, .bool x.b1, .bool x.b2, .slice r.ta x.ts.length r.tc, .int .i64 x.pins]
def entV (x : Ent) (r : EntR) : Value := .agg (entW x r).toArray
/-- Its lists, in a world. -/
structure EntIn (w : World) (x : Ent) (r : EntR) : Prop where
  h : HdsIn w r.ha x.hs
  b : BIn w r.ba x.bl
  k : TIn w r.ta x.ts
  hc : x.hs.length ≤ r.hc
  bc : x.bl.length ≤ r.bc
  tc : x.ts.length ≤ r.tc
theorem EntIn.keep {w w' : World} {x : Ent} {r : EntR} (k : EntIn w x r) (hb : Below w.heap.size w w') : EntIn w' x r := ⟨k.h.keep hb, k.b.keep hb, k.k.keep hb, k.hc, k.bc, k.tc⟩
/-- Entries one behind the other: thirteen cells each. -/
def EntsAt (w : World) (b off : Nat) (l : List (Ent × EntR)) : Prop := ∀ (i : Nat) q, l[i]? = some q → (∀ j, j < 13 → w.cell? ⟨b, off + i * 13 + j, none⟩ = (entW q.1 q.2)[j]?) ∧ EntIn w q.1 q.2
theorem EntsAt.keep {w w' : World} {b off : Nat} {l : List (Ent × EntR)} (h : EntsAt w b off l) (hb : Below w.heap.size w w') : EntsAt w' b off l := by
  intro i q hq
  obtain ⟨h1, h2⟩ := h i q hq
  refine ⟨fun j hj => ?_, h2.keep hb⟩
  have c := h1 j hj
  have hlt : b < w.heap.size := by
    have c0 := h1 0 (by omega)
    exact block_lt_of_cell (c0.trans rfl)
  rw [hb.cell (p := ⟨b, off + i * 13 + j, none⟩) hlt]
  exact c
def EntsIn (w : World) (a : Option Addr) (l : List (Ent × EntR)) : Prop := l = [] ∨ ∃ b off, a = some ⟨b, off, none⟩ ∧ EntsAt w b off l
theorem EntsIn.keep {w w' : World} {a : Option Addr} {l : List (Ent × EntR)} (h : EntsIn w a l) (hb : Below w.heap.size w w') : EntsIn w' a l := by
  rcases h with h | ⟨b, off, e, h⟩
  · exact .inl h
  · exact .inr ⟨b, off, e, h.keep hb⟩
/-- Sizes that came in. -/
structure EntSm (x : Ent) : Prop where
  key : x.key.size ≤ maxLen
  hl : x.hs.length ≤ maxLen
  hs : SmallHdrs x.hs
  bl : x.bl.length ≤ maxLen
  tl : x.ts.length ≤ maxLen
  ts : ∀ t ∈ x.ts, t.size ≤ maxLen
end Go.Proofs.YtopkidfbkhjaeaaGreatDoor
/-
  Thirteen cells that may be written.
-/
namespace Go.Proofs.YtopkidfbkhjaeaaGreatDoor
open Go.ChangeShapes Go.WideShapes Go.ChangeAt Go.RowKit
structure E13 (w : World) (b : Nat) (v0 v1 v2 v3 v4 v5 v6 v7 v8 v9 v10 v11 v12 : Value) : Prop where
  c0 : w.cell? ⟨b, 0, none⟩ = some v0
  c1 : w.cell? ⟨b, 1, none⟩ = some v1
  c2 : w.cell? ⟨b, 2, none⟩ = some v2
  c3 : w.cell? ⟨b, 3, none⟩ = some v3
  c4 : w.cell? ⟨b, 4, none⟩ = some v4
  c5 : w.cell? ⟨b, 5, none⟩ = some v5
  c6 : w.cell? ⟨b, 6, none⟩ = some v6
  c7 : w.cell? ⟨b, 7, none⟩ = some v7
  c8 : w.cell? ⟨b, 8, none⟩ = some v8
  c9 : w.cell? ⟨b, 9, none⟩ = some v9
  c10 : w.cell? ⟨b, 10, none⟩ = some v10
  c11 : w.cell? ⟨b, 11, none⟩ = some v11
  c12 : w.cell? ⟨b, 12, none⟩ = some v12
  fr : ∀ o, w.frozen? ⟨b, o, none⟩ = false
  lt : b < w.heap.size
section
variable {w w' : World} {b : Nat} {v0 v1 v2 v3 v4 v5 v6 v7 v8 v9 v10 v11 v12 : Value}
theorem E13.keep (k : E13 w b v0 v1 v2 v3 v4 v5 v6 v7 v8 v9 v10 v11 v12) (hb : Below w.heap.size w w') : E13 w' b v0 v1 v2 v3 v4 v5 v6 v7 v8 v9 v10 v11 v12 :=
  ⟨by rw [hb.cell (p := ⟨b, 0, none⟩) k.lt]; exact k.c0, by rw [hb.cell (p := ⟨b, 1, none⟩) k.lt]; exact k.c1, by rw [hb.cell (p := ⟨b, 2, none⟩) k.lt]; exact k.c2, by rw [hb.cell (p := ⟨b, 3, none⟩) k.lt]; exact k.c3, by rw [hb.cell (p := ⟨b, 4, none⟩) k.lt]; exact k.c4, by rw [hb.cell (p := ⟨b, 5, none⟩) k.lt]; exact k.c5, by rw [hb.cell (p := ⟨b, 6, none⟩) k.lt]; exact k.c6, by rw [hb.cell (p := ⟨b, 7, none⟩) k.lt]; exact k.c7, by rw [hb.cell (p := ⟨b, 8, none⟩) k.lt]; exact k.c8, by rw [hb.cell (p := ⟨b, 9, none⟩) k.lt]; exact k.c9, by rw [hb.cell (p := ⟨b, 10, none⟩) k.lt]; exact k.c10, by rw [hb.cell (p := ⟨b, 11, none⟩) k.lt]; exact k.c11, by rw [hb.cell (p := ⟨b, 12, none⟩) k.lt]; exact k.c12, fun o => by rw [hb.frozen (p := ⟨b, o, none⟩) k.lt]; exact k.fr o, Nat.lt_of_lt_of_le k.lt hb.size⟩
theorem E13.new (w : World) (v0 v1 v2 v3 v4 v5 v6 v7 v8 v9 v10 v11 v12 : Value) (t : TypeId) : E13 (w.alloc (.cells #[v0, v1, v2, v3, v4, v5, v6, v7, v8, v9, v10, v11, v12] t)) w.heap.size v0 v1 v2 v3 v4 v5 v6 v7 v8 v9 v10 v11 v12 := ⟨by simp, by simp, by simp, by simp, by simp, by simp, by simp, by simp, by simp, by simp, by simp, by simp, by simp, fun o => by simp, by simp⟩
theorem E13.off (k : E13 w b v0 v1 v2 v3 v4 v5 v6 v7 v8 v9 v10 v11 v12) {B i : Nat} {x : Value} (h : B ≠ b) : E13 (w.setCell ⟨B, i, none⟩ x) b v0 v1 v2 v3 v4 v5 v6 v7 v8 v9 v10 v11 v12 := by
  have ne : ∀ o : Nat, (⟨B, i, none⟩ : Addr) ≠ ⟨b, o, none⟩ := fun o q => h (congrArg Addr.block q)
  exact ⟨by rw [World.cell?_setCell_other _ _ _ _ (ne _)]; exact k.c0, by rw [World.cell?_setCell_other _ _ _ _ (ne _)]; exact k.c1, by rw [World.cell?_setCell_other _ _ _ _ (ne _)]; exact k.c2, by rw [World.cell?_setCell_other _ _ _ _ (ne _)]; exact k.c3, by rw [World.cell?_setCell_other _ _ _ _ (ne _)]; exact k.c4, by rw [World.cell?_setCell_other _ _ _ _ (ne _)]; exact k.c5, by rw [World.cell?_setCell_other _ _ _ _ (ne _)]; exact k.c6, by rw [World.cell?_setCell_other _ _ _ _ (ne _)]; exact k.c7, by rw [World.cell?_setCell_other _ _ _ _ (ne _)]; exact k.c8, by rw [World.cell?_setCell_other _ _ _ _ (ne _)]; exact k.c9, by rw [World.cell?_setCell_other _ _ _ _ (ne _)]; exact k.c10, by rw [World.cell?_setCell_other _ _ _ _ (ne _)]; exact k.c11, by rw [World.cell?_setCell_other _ _ _ _ (ne _)]; exact k.c12, fun o => by rw [World.frozen?_setCell]; exact k.fr o, by simpa using k.lt⟩
theorem E13.set0 (k : E13 w b v0 v1 v2 v3 v4 v5 v6 v7 v8 v9 v10 v11 v12) (x : Value) : E13 (w.setCell ⟨b, 0, none⟩ x) b x v1 v2 v3 v4 v5 v6 v7 v8 v9 v10 v11 v12 :=
  ⟨World.cell?_setCell_same _ _ _ k.c0, by rw [World.cell?_setCell_other _ _ _ _ (by intro q; have := congrArg Addr.off q; simp at this)]; exact k.c1, by rw [World.cell?_setCell_other _ _ _ _ (by intro q; have := congrArg Addr.off q; simp at this)]; exact k.c2, by rw [World.cell?_setCell_other _ _ _ _ (by intro q; have := congrArg Addr.off q; simp at this)]; exact k.c3, by rw [World.cell?_setCell_other _ _ _ _ (by intro q; have := congrArg Addr.off q; simp at this)]; exact k.c4, by rw [World.cell?_setCell_other _ _ _ _ (by intro q; have := congrArg Addr.off q; simp at this)]; exact k.c5, by rw [World.cell?_setCell_other _ _ _ _ (by intro q; have := congrArg Addr.off q; simp at this)]; exact k.c6, by rw [World.cell?_setCell_other _ _ _ _ (by intro q; have := congrArg Addr.off q; simp at this)]; exact k.c7, by rw [World.cell?_setCell_other _ _ _ _ (by intro q; have := congrArg Addr.off q; simp at this)]; exact k.c8, by rw [World.cell?_setCell_other _ _ _ _ (by intro q; have := congrArg Addr.off q; simp at this)]; exact k.c9, by rw [World.cell?_setCell_other _ _ _ _ (by intro q; have := congrArg Addr.off q; simp at this)]; exact k.c10, by rw [World.cell?_setCell_other _ _ _ _ (by intro q; have := congrArg Addr.off q; simp at this)]; exact k.c11, by rw [World.cell?_setCell_other _ _ _ _ (by intro q; have := congrArg Addr.off q; simp at this)]; exact k.c12, fun o => by rw [World.frozen?_setCell]; exact k.fr o, by simpa using k.lt⟩
theorem E13.set1 (k : E13 w b v0 v1 v2 v3 v4 v5 v6 v7 v8 v9 v10 v11 v12) (x : Value) : E13 (w.setCell ⟨b, 1, none⟩ x) b v0 x v2 v3 v4 v5 v6 v7 v8 v9 v10 v11 v12 :=
  ⟨by rw [World.cell?_setCell_other _ _ _ _ (by intro q; have := congrArg Addr.off q; simp at this)]; exact k.c0, World.cell?_setCell_same _ _ _ k.c1, by rw [World.cell?_setCell_other _ _ _ _ (by intro q; have := congrArg Addr.off q; simp at this)]; exact k.c2, by rw [World.cell?_setCell_other _ _ _ _ (by intro q; have := congrArg Addr.off q; simp at this)]; exact k.c3, by rw [World.cell?_setCell_other _ _ _ _ (by intro q; have := congrArg Addr.off q; simp at this)]; exact k.c4, by rw [World.cell?_setCell_other _ _ _ _ (by intro q; have := congrArg Addr.off q; simp at this)]; exact k.c5, by rw [World.cell?_setCell_other _ _ _ _ (by intro q; have := congrArg Addr.off q; simp at this)]; exact k.c6, by rw [World.cell?_setCell_other _ _ _ _ (by intro q; have := congrArg Addr.off q; simp at this)]; exact k.c7, by rw [World.cell?_setCell_other _ _ _ _ (by intro q; have := congrArg Addr.off q; simp at this)]; exact k.c8, by rw [World.cell?_setCell_other _ _ _ _ (by intro q; have := congrArg Addr.off q; simp at this)]; exact k.c9, by rw [World.cell?_setCell_other _ _ _ _ (by intro q; have := congrArg Addr.off q; simp at this)]; exact k.c10, by rw [World.cell?_setCell_other _ _ _ _ (by intro q; have := congrArg Addr.off q; simp at this)]; exact k.c11, by rw [World.cell?_setCell_other _ _ _ _ (by intro q; have := congrArg Addr.off q; simp at this)]; exact k.c12, fun o => by rw [World.frozen?_setCell]; exact k.fr o, by simpa using k.lt⟩
theorem E13.set2 (k : E13 w b v0 v1 v2 v3 v4 v5 v6 v7 v8 v9 v10 v11 v12) (x : Value) : E13 (w.setCell ⟨b, 2, none⟩ x) b v0 v1 x v3 v4 v5 v6 v7 v8 v9 v10 v11 v12 :=
  ⟨by rw [World.cell?_setCell_other _ _ _ _ (by intro q; have := congrArg Addr.off q; simp at this)]; exact k.c0, by rw [World.cell?_setCell_other _ _ _ _ (by intro q; have := congrArg Addr.off q; simp at this)]; exact k.c1, World.cell?_setCell_same _ _ _ k.c2, by rw [World.cell?_setCell_other _ _ _ _ (by intro q; have := congrArg Addr.off q; simp at this)]; exact k.c3, by rw [World.cell?_setCell_other _ _ _ _ (by intro q; have := congrArg Addr.off q; simp at this)]; exact k.c4, by rw [World.cell?_setCell_other _ _ _ _ (by intro q; have := congrArg Addr.off q; simp at this)]; exact k.c5, by rw [World.cell?_setCell_other _ _ _ _ (by intro q; have := congrArg Addr.off q; simp at this)]; exact k.c6, by rw [World.cell?_setCell_other _ _ _ _ (by intro q; have := congrArg Addr.off q; simp at this)]; exact k.c7, by rw [World.cell?_setCell_other _ _ _ _ (by intro q; have := congrArg Addr.off q; simp at this)]; exact k.c8, by rw [World.cell?_setCell_other _ _ _ _ (by intro q; have := congrArg Addr.off q; simp at this)]; exact k.c9, by rw [World.cell?_setCell_other _ _ _ _ (by intro q; have := congrArg Addr.off q; simp at this)]; exact k.c10, by rw [World.cell?_setCell_other _ _ _ _ (by intro q; have := congrArg Addr.off q; simp at this)]; exact k.c11, by rw [World.cell?_setCell_other _ _ _ _ (by intro q; have := congrArg Addr.off q; simp at this)]; exact k.c12, fun o => by rw [World.frozen?_setCell]; exact k.fr o, by simpa using k.lt⟩
theorem E13.set3 (k : E13 w b v0 v1 v2 v3 v4 v5 v6 v7 v8 v9 v10 v11 v12) (x : Value) : E13 (w.setCell ⟨b, 3, none⟩ x) b v0 v1 v2 x v4 v5 v6 v7 v8 v9 v10 v11 v12 :=
  ⟨by rw [World.cell?_setCell_other _ _ _ _ (by intro q; have := congrArg Addr.off q; simp at this)]; exact k.c0, by rw [World.cell?_setCell_other _ _ _ _ (by intro q; have := congrArg Addr.off q; simp at this)]; exact k.c1, by rw [World.cell?_setCell_other _ _ _ _ (by intro q; have := congrArg Addr.off q; simp at this)]; exact k.c2, World.cell?_setCell_same _ _ _ k.c3, by rw [World.cell?_setCell_other _ _ _ _ (by intro q; have := congrArg Addr.off q; simp at this)]; exact k.c4, by rw [World.cell?_setCell_other _ _ _ _ (by intro q; have := congrArg Addr.off q; simp at this)]; exact k.c5, by rw [World.cell?_setCell_other _ _ _ _ (by intro q; have := congrArg Addr.off q; simp at this)]; exact k.c6, by rw [World.cell?_setCell_other _ _ _ _ (by intro q; have := congrArg Addr.off q; simp at this)]; exact k.c7, by rw [World.cell?_setCell_other _ _ _ _ (by intro q; have := congrArg Addr.off q; simp at this)]; exact k.c8, by rw [World.cell?_setCell_other _ _ _ _ (by intro q; have := congrArg Addr.off q; simp at this)]; exact k.c9, by rw [World.cell?_setCell_other _ _ _ _ (by intro q; have := congrArg Addr.off q; simp at this)]; exact k.c10, by rw [World.cell?_setCell_other _ _ _ _ (by intro q; have := congrArg Addr.off q; simp at this)]; exact k.c11, by rw [World.cell?_setCell_other _ _ _ _ (by intro q; have := congrArg Addr.off q; simp at this)]; exact k.c12, fun o => by rw [World.frozen?_setCell]; exact k.fr o, by simpa using k.lt⟩
theorem E13.set4 (k : E13 w b v0 v1 v2 v3 v4 v5 v6 v7 v8 v9 v10 v11 v12) (x : Value) : E13 (w.setCell ⟨b, 4, none⟩ x) b v0 v1 v2 v3 x v5 v6 v7 v8 v9 v10 v11 v12 :=
  ⟨by rw [World.cell?_setCell_other _ _ _ _ (by intro q; have := congrArg Addr.off q; simp at this)]; exact k.c0, by rw [World.cell?_setCell_other _ _ _ _ (by intro q; have := congrArg Addr.off q; simp at this)]; exact k.c1, by rw [World.cell?_setCell_other _ _ _ _ (by intro q; have := congrArg Addr.off q; simp at this)]; exact k.c2, by rw [World.cell?_setCell_other _ _ _ _ (by intro q; have := congrArg Addr.off q; simp at this)]; exact k.c3, World.cell?_setCell_same _ _ _ k.c4, by rw [World.cell?_setCell_other _ _ _ _ (by intro q; have := congrArg Addr.off q; simp at this)]; exact k.c5, by rw [World.cell?_setCell_other _ _ _ _ (by intro q; have := congrArg Addr.off q; simp at this)]; exact k.c6, by rw [World.cell?_setCell_other _ _ _ _ (by intro q; have := congrArg Addr.off q; simp at this)]; exact k.c7, by rw [World.cell?_setCell_other _ _ _ _ (by intro q; have := congrArg Addr.off q; simp at this)]; exact k.c8, by rw [World.cell?_setCell_other _ _ _ _ (by intro q; have := congrArg Addr.off q; simp at this)]; exact k.c9, by rw [World.cell?_setCell_other _ _ _ _ (by intro q; have := congrArg Addr.off q; simp at this)]; exact k.c10, by rw [World.cell?_setCell_other _ _ _ _ (by intro q; have := congrArg Addr.off q; simp at this)]; exact k.c11, by rw [World.cell?_setCell_other _ _ _ _ (by intro q; have := congrArg Addr.off q; simp at this)]; exact k.c12, fun o => by rw [World.frozen?_setCell]; exact k.fr o, by simpa using k.lt⟩
theorem E13.set5 (k : E13 w b v0 v1 v2 v3 v4 v5 v6 v7 v8 v9 v10 v11 v12) (x : Value) : E13 (w.setCell ⟨b, 5, none⟩ x) b v0 v1 v2 v3 v4 x v6 v7 v8 v9 v10 v11 v12 :=
  ⟨by rw [World.cell?_setCell_other _ _ _ _ (by intro q; have := congrArg Addr.off q; simp at this)]; exact k.c0, by rw [World.cell?_setCell_other _ _ _ _ (by intro q; have := congrArg Addr.off q; simp at this)]; exact k.c1, by rw [World.cell?_setCell_other _ _ _ _ (by intro q; have := congrArg Addr.off q; simp at this)]; exact k.c2, by rw [World.cell?_setCell_other _ _ _ _ (by intro q; have := congrArg Addr.off q; simp at this)]; exact k.c3, by rw [World.cell?_setCell_other _ _ _ _ (by intro q; have := congrArg Addr.off q; simp at this)]; exact k.c4, World.cell?_setCell_same _ _ _ k.c5, by rw [World.cell?_setCell_other _ _ _ _ (by intro q; have := congrArg Addr.off q; simp at this)]; exact k.c6, by rw [World.cell?_setCell_other _ _ _ _ (by intro q; have := congrArg Addr.off q; simp at this)]; exact k.c7, by rw [World.cell?_setCell_other _ _ _ _ (by intro q; have := congrArg Addr.off q; simp at this)]; exact k.c8, by rw [World.cell?_setCell_other _ _ _ _ (by intro q; have := congrArg Addr.off q; simp at this)]; exact k.c9, by rw [World.cell?_setCell_other _ _ _ _ (by intro q; have := congrArg Addr.off q; simp at this)]; exact k.c10, by rw [World.cell?_setCell_other _ _ _ _ (by intro q; have := congrArg Addr.off q; simp at this)]; exact k.c11, by rw [World.cell?_setCell_other _ _ _ _ (by intro q; have := congrArg Addr.off q; simp at this)]; exact k.c12, fun o => by rw [World.frozen?_setCell]; exact k.fr o, by simpa using k.lt⟩
theorem E13.set6 (k : E13 w b v0 v1 v2 v3 v4 v5 v6 v7 v8 v9 v10 v11 v12) (x : Value) : E13 (w.setCell ⟨b, 6, none⟩ x) b v0 v1 v2 v3 v4 v5 x v7 v8 v9 v10 v11 v12 :=
  ⟨by rw [World.cell?_setCell_other _ _ _ _ (by intro q; have := congrArg Addr.off q; simp at this)]; exact k.c0, by rw [World.cell?_setCell_other _ _ _ _ (by intro q; have := congrArg Addr.off q; simp at this)]; exact k.c1, by rw [World.cell?_setCell_other _ _ _ _ (by intro q; have := congrArg Addr.off q; simp at this)]; exact k.c2, by rw [World.cell?_setCell_other _ _ _ _ (by intro q; have := congrArg Addr.off q; simp at this)]; exact k.c3, by rw [World.cell?_setCell_other _ _ _ _ (by intro q; have := congrArg Addr.off q; simp at this)]; exact k.c4, by rw [World.cell?_setCell_other _ _ _ _ (by intro q; have := congrArg Addr.off q; simp at this)]; exact k.c5, World.cell?_setCell_same _ _ _ k.c6, by rw [World.cell?_setCell_other _ _ _ _ (by intro q; have := congrArg Addr.off q; simp at this)]; exact k.c7, by rw [World.cell?_setCell_other _ _ _ _ (by intro q; have := congrArg Addr.off q; simp at this)]; exact k.c8, by rw [World.cell?_setCell_other _ _ _ _ (by intro q; have := congrArg Addr.off q; simp at this)]; exact k.c9, by rw [World.cell?_setCell_other _ _ _ _ (by intro q; have := congrArg Addr.off q; simp at this)]; exact k.c10, by rw [World.cell?_setCell_other _ _ _ _ (by intro q; have := congrArg Addr.off q; simp at this)]; exact k.c11, by rw [World.cell?_setCell_other _ _ _ _ (by intro q; have := congrArg Addr.off q; simp at this)]; exact k.c12, fun o => by rw [World.frozen?_setCell]; exact k.fr o, by simpa using k.lt⟩
theorem E13.set7 (k : E13 w b v0 v1 v2 v3 v4 v5 v6 v7 v8 v9 v10 v11 v12) (x : Value) : E13 (w.setCell ⟨b, 7, none⟩ x) b v0 v1 v2 v3 v4 v5 v6 x v8 v9 v10 v11 v12 :=
  ⟨by rw [World.cell?_setCell_other _ _ _ _ (by intro q; have := congrArg Addr.off q; simp at this)]; exact k.c0, by rw [World.cell?_setCell_other _ _ _ _ (by intro q; have := congrArg Addr.off q; simp at this)]; exact k.c1, by rw [World.cell?_setCell_other _ _ _ _ (by intro q; have := congrArg Addr.off q; simp at this)]; exact k.c2, by rw [World.cell?_setCell_other _ _ _ _ (by intro q; have := congrArg Addr.off q; simp at this)]; exact k.c3, by rw [World.cell?_setCell_other _ _ _ _ (by intro q; have := congrArg Addr.off q; simp at this)]; exact k.c4, by rw [World.cell?_setCell_other _ _ _ _ (by intro q; have := congrArg Addr.off q; simp at this)]; exact k.c5, by rw [World.cell?_setCell_other _ _ _ _ (by intro q; have := congrArg Addr.off q; simp at this)]; exact k.c6, World.cell?_setCell_same _ _ _ k.c7, by rw [World.cell?_setCell_other _ _ _ _ (by intro q; have := congrArg Addr.off q; simp at this)]; exact k.c8, by rw [World.cell?_setCell_other _ _ _ _ (by intro q; have := congrArg Addr.off q; simp at this)]; exact k.c9, by rw [World.cell?_setCell_other _ _ _ _ (by intro q; have := congrArg Addr.off q; simp at this)]; exact k.c10, by rw [World.cell?_setCell_other _ _ _ _ (by intro q; have := congrArg Addr.off q; simp at this)]; exact k.c11, by rw [World.cell?_setCell_other _ _ _ _ (by intro q; have := congrArg Addr.off q; simp at this)]; exact k.c12, fun o => by rw [World.frozen?_setCell]; exact k.fr o, by simpa using k.lt⟩
theorem E13.set8 (k : E13 w b v0 v1 v2 v3 v4 v5 v6 v7 v8 v9 v10 v11 v12) (x : Value) : E13 (w.setCell ⟨b, 8, none⟩ x) b v0 v1 v2 v3 v4 v5 v6 v7 x v9 v10 v11 v12 :=
  ⟨by rw [World.cell?_setCell_other _ _ _ _ (by intro q; have := congrArg Addr.off q; simp at this)]; exact k.c0, by rw [World.cell?_setCell_other _ _ _ _ (by intro q; have := congrArg Addr.off q; simp at this)]; exact k.c1, by rw [World.cell?_setCell_other _ _ _ _ (by intro q; have := congrArg Addr.off q; simp at this)]; exact k.c2, by rw [World.cell?_setCell_other _ _ _ _ (by intro q; have := congrArg Addr.off q; simp at this)]; exact k.c3, by rw [World.cell?_setCell_other _ _ _ _ (by intro q; have := congrArg Addr.off q; simp at this)]; exact k.c4, by rw [World.cell?_setCell_other _ _ _ _ (by intro q; have := congrArg Addr.off q; simp at this)]; exact k.c5, by rw [World.cell?_setCell_other _ _ _ _ (by intro q; have := congrArg Addr.off q; simp at this)]; exact k.c6, by rw [World.cell?_setCell_other _ _ _ _ (by intro q; have := congrArg Addr.off q; simp at this)]; exact k.c7, World.cell?_setCell_same _ _ _ k.c8, by rw [World.cell?_setCell_other _ _ _ _ (by intro q; have := congrArg Addr.off q; simp at this)]; exact k.c9, by rw [World.cell?_setCell_other _ _ _ _ (by intro q; have := congrArg Addr.off q; simp at this)]; exact k.c10, by rw [World.cell?_setCell_other _ _ _ _ (by intro q; have := congrArg Addr.off q; simp at this)]; exact k.c11, by rw [World.cell?_setCell_other _ _ _ _ (by intro q; have := congrArg Addr.off q; simp at this)]; exact k.c12, fun o => by rw [World.frozen?_setCell]; exact k.fr o, by simpa using k.lt⟩
theorem E13.set9 (k : E13 w b v0 v1 v2 v3 v4 v5 v6 v7 v8 v9 v10 v11 v12) (x : Value) : E13 (w.setCell ⟨b, 9, none⟩ x) b v0 v1 v2 v3 v4 v5 v6 v7 v8 x v10 v11 v12 :=
  ⟨by rw [World.cell?_setCell_other _ _ _ _ (by intro q; have := congrArg Addr.off q; simp at this)]; exact k.c0, by rw [World.cell?_setCell_other _ _ _ _ (by intro q; have := congrArg Addr.off q; simp at this)]; exact k.c1, by rw [World.cell?_setCell_other _ _ _ _ (by intro q; have := congrArg Addr.off q; simp at this)]; exact k.c2, by rw [World.cell?_setCell_other _ _ _ _ (by intro q; have := congrArg Addr.off q; simp at this)]; exact k.c3, by rw [World.cell?_setCell_other _ _ _ _ (by intro q; have := congrArg Addr.off q; simp at this)]; exact k.c4, by rw [World.cell?_setCell_other _ _ _ _ (by intro q; have := congrArg Addr.off q; simp at this)]; exact k.c5, by rw [World.cell?_setCell_other _ _ _ _ (by intro q; have := congrArg Addr.off q; simp at this)]; exact k.c6, by rw [World.cell?_setCell_other _ _ _ _ (by intro q; have := congrArg Addr.off q; simp at this)]; exact k.c7, by rw [World.cell?_setCell_other _ _ _ _ (by intro q; have := congrArg Addr.off q; simp at this)]; exact k.c8, World.cell?_setCell_same _ _ _ k.c9, by rw [World.cell?_setCell_other _ _ _ _ (by intro q; have := congrArg Addr.off q; simp at this)]; exact k.c10, by rw [World.cell?_setCell_other _ _ _ _ (by intro q; have := congrArg Addr.off q; simp at this)]; exact k.c11, by rw [World.cell?_setCell_other _ _ _ _ (by intro q; have := congrArg Addr.off q; simp at this)]; exact k.c12, fun o => by rw [World.frozen?_setCell]; exact k.fr o, by simpa using k.lt⟩
theorem E13.set10 (k : E13 w b v0 v1 v2 v3 v4 v5 v6 v7 v8 v9 v10 v11 v12) (x : Value) : E13 (w.setCell ⟨b, 10, none⟩ x) b v0 v1 v2 v3 v4 v5 v6 v7 v8 v9 x v11 v12 :=
  ⟨by rw [World.cell?_setCell_other _ _ _ _ (by intro q; have := congrArg Addr.off q; simp at this)]; exact k.c0, by rw [World.cell?_setCell_other _ _ _ _ (by intro q; have := congrArg Addr.off q; simp at this)]; exact k.c1, by rw [World.cell?_setCell_other _ _ _ _ (by intro q; have := congrArg Addr.off q; simp at this)]; exact k.c2, by rw [World.cell?_setCell_other _ _ _ _ (by intro q; have := congrArg Addr.off q; simp at this)]; exact k.c3, by rw [World.cell?_setCell_other _ _ _ _ (by intro q; have := congrArg Addr.off q; simp at this)]; exact k.c4, by rw [World.cell?_setCell_other _ _ _ _ (by intro q; have := congrArg Addr.off q; simp at this)]; exact k.c5, by rw [World.cell?_setCell_other _ _ _ _ (by intro q; have := congrArg Addr.off q; simp at this)]; exact k.c6, by rw [World.cell?_setCell_other _ _ _ _ (by intro q; have := congrArg Addr.off q; simp at this)]; exact k.c7, by rw [World.cell?_setCell_other _ _ _ _ (by intro q; have := congrArg Addr.off q; simp at this)]; exact k.c8, by rw [World.cell?_setCell_other _ _ _ _ (by intro q; have := congrArg Addr.off q; simp at this)]; exact k.c9, World.cell?_setCell_same _ _ _ k.c10, by rw [World.cell?_setCell_other _ _ _ _ (by intro q; have := congrArg Addr.off q; simp at this)]; exact k.c11, by rw [World.cell?_setCell_other _ _ _ _ (by intro q; have := congrArg Addr.off q; simp at this)]; exact k.c12, fun o => by rw [World.frozen?_setCell]; exact k.fr o, by simpa using k.lt⟩
theorem E13.set11 (k : E13 w b v0 v1 v2 v3 v4 v5 v6 v7 v8 v9 v10 v11 v12) (x : Value) : E13 (w.setCell ⟨b, 11, none⟩ x) b v0 v1 v2 v3 v4 v5 v6 v7 v8 v9 v10 x v12 :=
  ⟨by rw [World.cell?_setCell_other _ _ _ _ (by intro q; have := congrArg Addr.off q; simp at this)]; exact k.c0, by rw [World.cell?_setCell_other _ _ _ _ (by intro q; have := congrArg Addr.off q; simp at this)]; exact k.c1, by rw [World.cell?_setCell_other _ _ _ _ (by intro q; have := congrArg Addr.off q; simp at this)]; exact k.c2, by rw [World.cell?_setCell_other _ _ _ _ (by intro q; have := congrArg Addr.off q; simp at this)]; exact k.c3, by rw [World.cell?_setCell_other _ _ _ _ (by intro q; have := congrArg Addr.off q; simp at this)]; exact k.c4, by rw [World.cell?_setCell_other _ _ _ _ (by intro q; have := congrArg Addr.off q; simp at this)]; exact k.c5, by rw [World.cell?_setCell_other _ _ _ _ (by intro q; have := congrArg Addr.off q; simp at this)]; exact k.c6, by rw [World.cell?_setCell_other _ _ _ _ (by intro q; have := congrArg Addr.off q; simp at this)]; exact k.c7, by rw [World.cell?_setCell_other _ _ _ _ (by intro q; have := congrArg Addr.off q; simp at this)]; exact k.c8, by rw [World.cell?_setCell_other _ _ _ _ (by intro q; have := congrArg Addr.off q; simp at this)]; exact k.c9, by rw [World.cell?_setCell_other _ _ _ _ (by intro q; have := congrArg Addr.off q; simp at this)]; exact k.c10, World.cell?_setCell_same _ _ _ k.c11, by rw [World.cell?_setCell_other _ _ _ _ (by intro q; have := congrArg Addr.off q; simp at this)]; exact k.c12, fun o => by rw [World.frozen?_setCell]; exact k.fr o, by simpa using k.lt⟩
theorem E13.set12 (k : E13 w b v0 v1 v2 v3 v4 v5 v6 v7 v8 v9 v10 v11 v12) (x : Value) : E13 (w.setCell ⟨b, 12, none⟩ x) b v0 v1 v2 v3 v4 v5 v6 v7 v8 v9 v10 v11 x :=
  ⟨by rw [World.cell?_setCell_other _ _ _ _ (by intro q; have := congrArg Addr.off q; simp at this)]; exact k.c0, by rw [World.cell?_setCell_other _ _ _ _ (by intro q; have := congrArg Addr.off q; simp at this)]; exact k.c1, by rw [World.cell?_setCell_other _ _ _ _ (by intro q; have := congrArg Addr.off q; simp at this)]; exact k.c2, by rw [World.cell?_setCell_other _ _ _ _ (by intro q; have := congrArg Addr.off q; simp at this)]; exact k.c3, by rw [World.cell?_setCell_other _ _ _ _ (by intro q; have := congrArg Addr.off q; simp at this)]; exact k.c4, by rw [World.cell?_setCell_other _ _ _ _ (by intro q; have := congrArg Addr.off q; simp at this)]; exact k.c5, by rw [World.cell?_setCell_other _ _ _ _ (by intro q; have := congrArg Addr.off q; simp at this)]; exact k.c6, by rw [World.cell?_setCell_other _ _ _ _ (by intro q; have := congrArg Addr.off q; simp at this)]; exact k.c7, by rw [World.cell?_setCell_other _ _ _ _ (by intro q; have := congrArg Addr.off q; simp at this)]; exact k.c8, by rw [World.cell?_setCell_other _ _ _ _ (by intro q; have := congrArg Addr.off q; simp at this)]; exact k.c9, by rw [World.cell?_setCell_other _ _ _ _ (by intro q; have := congrArg Addr.off q; simp at this)]; exact k.c10, by rw [World.cell?_setCell_other _ _ _ _ (by intro q; have := congrArg Addr.off q; simp at this)]; exact k.c11, World.cell?_setCell_same _ _ _ k.c12, fun o => by rw [World.frozen?_setCell]; exact k.fr o, by simpa using k.lt⟩
end
theorem E13.all {X : World} {b : Nat} {v0 v1 v2 v3 v4 v5 v6 v7 v8 v9 v10 v11 v12 : Value} (k : E13 X b v0 v1 v2 v3 v4 v5 v6 v7 v8 v9 v10 v11 v12) (x0 x1 x2 x3 x4 x5 x6 x7 x8 x9 x10 x11 x12 : Value) : E13 (((((((((((((X.setCell ⟨b, 0, none⟩ x0).setCell ⟨b, 1, none⟩ x1).setCell ⟨b, 2, none⟩ x2).setCell ⟨b, 3, none⟩ x3).setCell ⟨b, 4, none⟩ x4).setCell ⟨b, 5, none⟩ x5).setCell ⟨b, 6, none⟩ x6).setCell ⟨b, 7, none⟩ x7).setCell ⟨b, 8, none⟩ x8).setCell ⟨b, 9, none⟩ x9).setCell ⟨b, 10, none⟩ x10).setCell ⟨b, 11, none⟩ x11).setCell ⟨b, 12, none⟩ x12) b x0 x1 x2 x3 x4 x5 x6 x7 x8 x9 x10 x11 x12 := (((((((((((((k.set0 _).set1 _).set2 _).set3 _).set4 _).set5 _).set6 _).set7 _).set8 _).set9 _).set10 _).set11 _).set12 _)
end Go.Proofs.YtopkidfbkhjaeaaGreatDoor
/-
  PolicyFault, on both sides; policies that lie in memory.
-/
namespace Go.Proofs.YtopkidfbkhjaeaaGreatDoor
open Go.ChangeShapes Go.WideShapes Go.ChangeAt Go.RowKit
/-- A policy in memory. -/
structure PolAt (w : World) (b : Nat) (b0 b1 b2 : Bool) (l s e g : Int) : Prop where
  c0 : w.cell? ⟨b, 0, none⟩ = some (.bool b0)
  c1 : w.cell? ⟨b, 1, none⟩ = some (.bool b1)
  c2 : w.cell? ⟨b, 2, none⟩ = some (.bool b2)
  c3 : w.cell? ⟨b, 3, none⟩ = some (.int .i64 l)
  c4 : w.cell? ⟨b, 4, none⟩ = some (.int .i64 s)
  c5 : w.cell? ⟨b, 5, none⟩ = some (.int .i64 e)
  c6 : w.cell? ⟨b, 6, none⟩ = some (.int .i64 g)
  fr : ∀ o, w.frozen? ⟨b, o, none⟩ = false
  lt : b < w.heap.size
theorem PolAt.keep {w w' : World} {b : Nat} {b0 b1 b2 : Bool} {l s e g : Int} (k : PolAt w b b0 b1 b2 l s e g) (hb : Below w.heap.size w w') : PolAt w' b b0 b1 b2 l s e g :=
  ⟨by rw [hb.cell (p := ⟨b, 0, none⟩) k.lt]; exact k.c0, by rw [hb.cell (p := ⟨b, 1, none⟩) k.lt]; exact k.c1, by rw [hb.cell (p := ⟨b, 2, none⟩) k.lt]; exact k.c2, by rw [hb.cell (p := ⟨b, 3, none⟩) k.lt]; exact k.c3, by rw [hb.cell (p := ⟨b, 4, none⟩) k.lt]; exact k.c4, by rw [hb.cell (p := ⟨b, 5, none⟩) k.lt]; exact k.c5, by rw [hb.cell (p := ⟨b, 6, none⟩) k.lt]; exact k.c6,
    fun o => by rw [hb.frozen (p := ⟨b, o, none⟩) k.lt]; exact k.fr o, Nat.lt_of_lt_of_le k.lt hb.size⟩
theorem PolAt.new (w : World) (b0 b1 b2 : Bool) (l s e g : Int) (t : TypeId) : PolAt (w.alloc (.cells #[.bool b0, .bool b1, .bool b2, .int .i64 l, .int .i64 s, .int .i64 e, .int .i64 g] t)) w.heap.size b0 b1 b2 l s e g :=
  ⟨by simp, by simp, by simp, by simp, by simp, by simp, by simp, fun o => by simp, by simp⟩
def timeB (x : Int) : Bool := decide (0 ≤ x) && decide (x ≤ 1000000000000000)
theorem timeB_yes {x : Int} (h0 : 0 ≤ x) (h1 : x ≤ 1000000000000000) : timeB x = true := by simp [timeB, h0, h1]
theorem timeB_of {x : Int} (h : timeB x = true) : 0 ≤ x ∧ x ≤ 1000000000000000 := by simpa [timeB] using h
theorem l1Time_all (x : Int) (w : World) : Calls Tryz.prog 127 #[.int .i64 x] w fun r w' => r = .returned (.bool (timeB x)) ∧ w' = w := by
  by_cases c1 : 0 ≤ x
  · by_cases c2 : x ≤ 1000000000000000
    · rw [timeB_yes c1 c2]
      have d2 : decide (x ≤ 1000000000000000) = true := by simp; omega
      go_enter Tryz.func127, Tryz.ntmps127
      go_wp2
      go_ret
      exact ⟨rfl, rfl⟩
    · have e : timeB x = false := by simp [timeB]; omega
      rw [e]
      have d2 : decide (x ≤ 1000000000000000) = false := by simp; omega
      go_enter Tryz.func127, Tryz.ntmps127
      go_wp2
      go_ret
      exact ⟨rfl, rfl⟩
  · have e : timeB x = false := by simp [timeB]; omega
    rw [e]
    go_enter Tryz.func127, Tryz.ntmps127
    go_wp2
    go_ret
    exact ⟨rfl, rfl⟩
theorem isTime_all (x : Int) (w : World) : Calls Tryz.prog 131 #[.int .i64 x] w fun r w' => r = .returned (.bool (timeB x)) ∧ w' = w := by
  by_cases c1 : 0 ≤ x
  · by_cases c2 : x ≤ 1000000000000000
    · rw [timeB_yes c1 c2]
      have d2 : decide (x ≤ 1000000000000000) = true := by simp; omega
      go_enter Tryz.func131, Tryz.ntmps131
      go_wp2
      go_ret
      exact ⟨rfl, rfl⟩
    · have e : timeB x = false := by simp [timeB]; omega
      rw [e]
      have d2 : decide (x ≤ 1000000000000000) = false := by simp; omega
      go_enter Tryz.func131, Tryz.ntmps131
      go_wp2
      go_ret
      exact ⟨rfl, rfl⟩
  · have e : timeB x = false := by simp [timeB]; omega
    rw [e]
    go_enter Tryz.func131, Tryz.ntmps131
    go_wp2
    go_ret
    exact ⟨rfl, rfl⟩
def polB (l s e g : Int) : Bool := (timeB l || decide (l = -1)) && timeB s && timeB e && timeB g
def polC (l s e g : Int) : Int := if polB l s e g = true then 0 else 3
theorem polC_ok {l s e g : Int} (h : polB l s e g = true) : polC l s e g = 0 := by rw [polC, if_pos h]
theorem polC_bad {l s e g : Int} (h : polB l s e g = false) : polC l s e g = 3 := by rw [polC, if_neg (by rw [h]; decide)]
set_option maxHeartbeats 4000000 in
theorem specPol_any (b0 b1 b2 : Bool) (l s e g : Int) (w : World) :
    Calls Tryz.prog 198 #[.agg #[.bool b0, .bool b1, .bool b2, .int .i64 l, .int .i64 s, .int .i64 e, .int .i64 g]] w fun r w' => r = .returned (.int .i64 (polC l s e g)) ∧ Below w.heap.size w w' := by
  have HT : Hid (∀ x w, Calls Tryz.prog 127 #[.int .i64 x] w fun r w' => r = .returned (.bool (timeB x)) ∧ w' = w) := l1Time_all
  have HB : Hid (Below w.heap.size w (w.alloc (.cells #[.bool b0, .bool b1, .bool b2, .int .i64 l, .int .i64 s, .int .i64 e, .int .i64 g] 155))) := (Below.refl _ _).alloc (Nat.le_refl _) _
  cases hl : timeB l
  · by_cases hm : l = -1
    · have hn : (l != -1) = false := by simp [hm]
      have HM : Hid (l = -1) := hm
      clear hm
      cases hs : timeB s
      · rw [polC_bad (by simp [polB, hs])]
        go_enter Tryz.func198, Tryz.ntmps198
        go_wp2_with fail
        refine (HT.out l _).mono ?_
        rintro r w1 ⟨rfl, rfl⟩
        rw [hl]
        go_wp2_with fail
        refine (HT.out s _).mono ?_
        rintro r w1 ⟨rfl, rfl⟩
        rw [hs]
        go_wp2_with fail
        go_ret
        exact ⟨rfl, HB.out⟩
      cases he : timeB e
      · rw [polC_bad (by simp [polB, he])]
        go_enter Tryz.func198, Tryz.ntmps198
        go_wp2_with fail
        refine (HT.out l _).mono ?_
        rintro r w1 ⟨rfl, rfl⟩
        rw [hl]
        go_wp2_with fail
        refine (HT.out s _).mono ?_
        rintro r w1 ⟨rfl, rfl⟩
        rw [hs]
        go_wp2_with fail
        refine (HT.out e _).mono ?_
        rintro r w1 ⟨rfl, rfl⟩
        rw [he]
        go_wp2_with fail
        go_ret
        exact ⟨rfl, HB.out⟩
      cases hg : timeB g
      · rw [polC_bad (by simp [polB, hg])]
        go_enter Tryz.func198, Tryz.ntmps198
        go_wp2_with fail
        refine (HT.out l _).mono ?_
        rintro r w1 ⟨rfl, rfl⟩
        rw [hl]
        go_wp2_with fail
        refine (HT.out s _).mono ?_
        rintro r w1 ⟨rfl, rfl⟩
        rw [hs]
        go_wp2_with fail
        refine (HT.out e _).mono ?_
        rintro r w1 ⟨rfl, rfl⟩
        rw [he]
        go_wp2_with fail
        refine (HT.out g _).mono ?_
        rintro r w1 ⟨rfl, rfl⟩
        rw [hg]
        go_wp2_with fail
        go_ret
        exact ⟨rfl, HB.out⟩
      rw [polC_ok (by simp [polB, HM.out, hs, he, hg])]
      go_enter Tryz.func198, Tryz.ntmps198
      go_wp2_with fail
      refine (HT.out l _).mono ?_
      rintro r w1 ⟨rfl, rfl⟩
      rw [hl]
      go_wp2_with fail
      refine (HT.out s _).mono ?_
      rintro r w1 ⟨rfl, rfl⟩
      rw [hs]
      go_wp2_with fail
      refine (HT.out e _).mono ?_
      rintro r w1 ⟨rfl, rfl⟩
      rw [he]
      go_wp2_with fail
      refine (HT.out g _).mono ?_
      rintro r w1 ⟨rfl, rfl⟩
      rw [hg]
      go_wp2_with fail
      go_ret
      exact ⟨rfl, HB.out⟩
    · have hn : (l != -1) = true := by simpa using hm
      rw [polC_bad (by simp [polB, hl, hm])]
      go_enter Tryz.func198, Tryz.ntmps198
      go_wp2_with fail
      refine (HT.out l _).mono ?_
      rintro r w1 ⟨rfl, rfl⟩
      rw [hl]
      go_wp2_with fail
      go_ret
      exact ⟨rfl, HB.out⟩
  · skip
    cases hs : timeB s
    · rw [polC_bad (by simp [polB, hs])]
      go_enter Tryz.func198, Tryz.ntmps198
      go_wp2_with fail
      refine (HT.out l _).mono ?_
      rintro r w1 ⟨rfl, rfl⟩
      rw [hl]
      go_wp2_with fail
      refine (HT.out s _).mono ?_
      rintro r w1 ⟨rfl, rfl⟩
      rw [hs]
      go_wp2_with fail
      go_ret
      exact ⟨rfl, HB.out⟩
    cases he : timeB e
    · rw [polC_bad (by simp [polB, he])]
      go_enter Tryz.func198, Tryz.ntmps198
      go_wp2_with fail
      refine (HT.out l _).mono ?_
      rintro r w1 ⟨rfl, rfl⟩
      rw [hl]
      go_wp2_with fail
      refine (HT.out s _).mono ?_
      rintro r w1 ⟨rfl, rfl⟩
      rw [hs]
      go_wp2_with fail
      refine (HT.out e _).mono ?_
      rintro r w1 ⟨rfl, rfl⟩
      rw [he]
      go_wp2_with fail
      go_ret
      exact ⟨rfl, HB.out⟩
    cases hg : timeB g
    · rw [polC_bad (by simp [polB, hg])]
      go_enter Tryz.func198, Tryz.ntmps198
      go_wp2_with fail
      refine (HT.out l _).mono ?_
      rintro r w1 ⟨rfl, rfl⟩
      rw [hl]
      go_wp2_with fail
      refine (HT.out s _).mono ?_
      rintro r w1 ⟨rfl, rfl⟩
      rw [hs]
      go_wp2_with fail
      refine (HT.out e _).mono ?_
      rintro r w1 ⟨rfl, rfl⟩
      rw [he]
      go_wp2_with fail
      refine (HT.out g _).mono ?_
      rintro r w1 ⟨rfl, rfl⟩
      rw [hg]
      go_wp2_with fail
      go_ret
      exact ⟨rfl, HB.out⟩
    rw [polC_ok (by simp [polB, hl, hs, he, hg])]
    go_enter Tryz.func198, Tryz.ntmps198
    go_wp2_with fail
    refine (HT.out l _).mono ?_
    rintro r w1 ⟨rfl, rfl⟩
    rw [hl]
    go_wp2_with fail
    refine (HT.out s _).mono ?_
    rintro r w1 ⟨rfl, rfl⟩
    rw [hs]
    go_wp2_with fail
    refine (HT.out e _).mono ?_
    rintro r w1 ⟨rfl, rfl⟩
    rw [he]
    go_wp2_with fail
    refine (HT.out g _).mono ?_
    rintro r w1 ⟨rfl, rfl⟩
    rw [hg]
    go_wp2_with fail
    go_ret
    exact ⟨rfl, HB.out⟩
set_option maxHeartbeats 4000000 in
theorem implPol_any (b0 b1 b2 : Bool) (l s e g : Int) (w : World) :
    Calls Tryz.prog 207 #[.agg #[.bool b0, .bool b1, .bool b2, .int .i64 l, .int .i64 s, .int .i64 e, .int .i64 g]] w fun r w' => r = .returned (.int .i64 (polC l s e g)) ∧ Below w.heap.size w w' := by
  have HT : Hid (∀ x w, Calls Tryz.prog 131 #[.int .i64 x] w fun r w' => r = .returned (.bool (timeB x)) ∧ w' = w) := isTime_all
  have HB : Hid (Below w.heap.size w (w.alloc (.cells #[.bool b0, .bool b1, .bool b2, .int .i64 l, .int .i64 s, .int .i64 e, .int .i64 g] 155))) := (Below.refl _ _).alloc (Nat.le_refl _) _
  by_cases hm : l = -1
  · have hn : (l != -1) = false := by simp [hm]
    have HM : Hid (l = -1) := hm
    clear hm
    cases hs : timeB s
    · rw [polC_bad (by simp [polB, hs])]
      go_enter Tryz.func207, Tryz.ntmps207
      go_wp2_with fail
      refine (HT.out s _).mono ?_
      rintro r w1 ⟨rfl, rfl⟩
      rw [hs]
      go_wp2_with fail
      go_ret
      exact ⟨rfl, HB.out⟩
    cases he : timeB e
    · rw [polC_bad (by simp [polB, he])]
      go_enter Tryz.func207, Tryz.ntmps207
      go_wp2_with fail
      refine (HT.out s _).mono ?_
      rintro r w1 ⟨rfl, rfl⟩
      rw [hs]
      go_wp2_with fail
      refine (HT.out e _).mono ?_
      rintro r w1 ⟨rfl, rfl⟩
      rw [he]
      go_wp2_with fail
      go_ret
      exact ⟨rfl, HB.out⟩
    cases hg : timeB g
    · rw [polC_bad (by simp [polB, hg])]
      go_enter Tryz.func207, Tryz.ntmps207
      go_wp2_with fail
      refine (HT.out s _).mono ?_
      rintro r w1 ⟨rfl, rfl⟩
      rw [hs]
      go_wp2_with fail
      refine (HT.out e _).mono ?_
      rintro r w1 ⟨rfl, rfl⟩
      rw [he]
      go_wp2_with fail
      refine (HT.out g _).mono ?_
      rintro r w1 ⟨rfl, rfl⟩
      rw [hg]
      go_wp2_with fail
      go_ret
      exact ⟨rfl, HB.out⟩
    rw [polC_ok (by simp [polB, HM.out, hs, he, hg])]
    go_enter Tryz.func207, Tryz.ntmps207
    go_wp2_with fail
    refine (HT.out s _).mono ?_
    rintro r w1 ⟨rfl, rfl⟩
    rw [hs]
    go_wp2_with fail
    refine (HT.out e _).mono ?_
    rintro r w1 ⟨rfl, rfl⟩
    rw [he]
    go_wp2_with fail
    refine (HT.out g _).mono ?_
    rintro r w1 ⟨rfl, rfl⟩
    rw [hg]
    go_wp2_with fail
    go_ret
    exact ⟨rfl, HB.out⟩
  have hn : (l != -1) = true := by simpa using hm
  cases hl : timeB l
  · rw [polC_bad (by simp [polB, hl, hm])]
    go_enter Tryz.func207, Tryz.ntmps207
    go_wp2_with fail
    refine (HT.out l _).mono ?_
    rintro r w1 ⟨rfl, rfl⟩
    rw [hl]
    go_wp2_with fail
    go_ret
    exact ⟨rfl, HB.out⟩
  cases hs : timeB s
  · rw [polC_bad (by simp [polB, hs])]
    go_enter Tryz.func207, Tryz.ntmps207
    go_wp2_with fail
    refine (HT.out l _).mono ?_
    rintro r w1 ⟨rfl, rfl⟩
    rw [hl]
    go_wp2_with fail
    refine (HT.out s _).mono ?_
    rintro r w1 ⟨rfl, rfl⟩
    rw [hs]
    go_wp2_with fail
    go_ret
    exact ⟨rfl, HB.out⟩
  cases he : timeB e
  · rw [polC_bad (by simp [polB, he])]
    go_enter Tryz.func207, Tryz.ntmps207
    go_wp2_with fail
    refine (HT.out l _).mono ?_
    rintro r w1 ⟨rfl, rfl⟩
    rw [hl]
    go_wp2_with fail
    refine (HT.out s _).mono ?_
    rintro r w1 ⟨rfl, rfl⟩
    rw [hs]
    go_wp2_with fail
    refine (HT.out e _).mono ?_
    rintro r w1 ⟨rfl, rfl⟩
    rw [he]
    go_wp2_with fail
    go_ret
    exact ⟨rfl, HB.out⟩
  cases hg : timeB g
  · rw [polC_bad (by simp [polB, hg])]
    go_enter Tryz.func207, Tryz.ntmps207
    go_wp2_with fail
    refine (HT.out l _).mono ?_
    rintro r w1 ⟨rfl, rfl⟩
    rw [hl]
    go_wp2_with fail
    refine (HT.out s _).mono ?_
    rintro r w1 ⟨rfl, rfl⟩
    rw [hs]
    go_wp2_with fail
    refine (HT.out e _).mono ?_
    rintro r w1 ⟨rfl, rfl⟩
    rw [he]
    go_wp2_with fail
    refine (HT.out g _).mono ?_
    rintro r w1 ⟨rfl, rfl⟩
    rw [hg]
    go_wp2_with fail
    go_ret
    exact ⟨rfl, HB.out⟩
  rw [polC_ok (by simp [polB, hl, hs, he, hg])]
  go_enter Tryz.func207, Tryz.ntmps207
  go_wp2_with fail
  refine (HT.out l _).mono ?_
  rintro r w1 ⟨rfl, rfl⟩
  rw [hl]
  go_wp2_with fail
  refine (HT.out s _).mono ?_
  rintro r w1 ⟨rfl, rfl⟩
  rw [hs]
  go_wp2_with fail
  refine (HT.out e _).mono ?_
  rintro r w1 ⟨rfl, rfl⟩
  rw [he]
  go_wp2_with fail
  refine (HT.out g _).mono ?_
  rintro r w1 ⟨rfl, rfl⟩
  rw [hg]
  go_wp2_with fail
  go_ret
  exact ⟨rfl, HB.out⟩
end Go.Proofs.YtopkidfbkhjaeaaGreatDoor
/-
  StoreLife, on both sides.
-/
namespace Go.Proofs.YtopkidfbkhjaeaaGreatDoor
open Go.ChangeShapes Go.WideShapes Go.ChangeAt Go.RowKit
/-- Two cells that may be written. -/
structure IR (w : World) (b : Nat) (v0 v1 : Value) : Prop where
  c0 : w.cell? ⟨b, 0, none⟩ = some v0
  c1 : w.cell? ⟨b, 1, none⟩ = some v1
  fr : ∀ o, w.frozen? ⟨b, o, none⟩ = false
  lt : b < w.heap.size
theorem IR.keep {w w' : World} {b : Nat} {v0 v1 : Value} (k : IR w b v0 v1) (hb : Below w.heap.size w w') : IR w' b v0 v1 :=
  ⟨by rw [hb.cell (p := ⟨b, 0, none⟩) k.lt]; exact k.c0, by rw [hb.cell (p := ⟨b, 1, none⟩) k.lt]; exact k.c1, fun o => by rw [hb.frozen (p := ⟨b, o, none⟩) k.lt]; exact k.fr o, Nat.lt_of_lt_of_le k.lt hb.size⟩
theorem IR.new (w : World) (v0 v1 : Value) (t : TypeId) : IR (w.alloc (.cells #[v0, v1] t)) w.heap.size v0 v1 :=
  ⟨by rw [World.cell?_alloc_mark]; rfl, by rw [World.cell?_alloc_mark]; rfl, fun o => by have e := heap_alloc_new w (.cells #[v0, v1] t); unfold World.frozen?; rw [e]; simp, by simp⟩
def statB (st : Int) : Bool := decide (st = 200) || decide (st = 404) || decide (st = 410)
/-- Whether an answer may be kept. -/
def keepB (b0 : Bool) (l st : Int) : Bool := !b0 && statB st && !(decide (st = 200) && decide (l = -1))
def lifeX (l ng : Int) : Int := if l = -1 then ng else l
def rangeB (st ng : Int) : Bool := decide (200 ≤ st) && decide (st ≤ 599) && timeB ng
def lifeC (b0 : Bool) (l s e g st ng : Int) : Int := if polB l s e g = true then (if rangeB st ng = true then (if keepB b0 l st = true then 0 else 4) else 3) else 3
def lifeV (b0 : Bool) (l s e g st ng : Int) : Int := if lifeC b0 l s e g st ng = 0 then lifeX l ng else 0
theorem life_pol {b0 : Bool} {l s e g st ng : Int} (h : polB l s e g = false) : lifeC b0 l s e g st ng = 3 ∧ lifeV b0 l s e g st ng = 0 := by
  have c : lifeC b0 l s e g st ng = 3 := by rw [lifeC, if_neg (by rw [h]; decide)]
  exact ⟨c, by rw [lifeV, c, if_neg (by decide)]⟩
theorem life_range {b0 : Bool} {l s e g st ng : Int} (h : polB l s e g = true) (h2 : rangeB st ng = false) : lifeC b0 l s e g st ng = 3 ∧ lifeV b0 l s e g st ng = 0 := by
  have c : lifeC b0 l s e g st ng = 3 := by rw [lifeC, if_pos h, if_neg (by rw [h2]; decide)]
  exact ⟨c, by rw [lifeV, c, if_neg (by decide)]⟩
theorem life_none {b0 : Bool} {l s e g st ng : Int} (h : polB l s e g = true) (h2 : rangeB st ng = true) (h3 : keepB b0 l st = false) : lifeC b0 l s e g st ng = 4 ∧ lifeV b0 l s e g st ng = 0 := by
  have c : lifeC b0 l s e g st ng = 4 := by rw [lifeC, if_pos h, if_pos h2, if_neg (by rw [h3]; decide)]
  exact ⟨c, by rw [lifeV, c, if_neg (by decide)]⟩
theorem life_ok {b0 : Bool} {l s e g st ng : Int} (h : polB l s e g = true) (h2 : rangeB st ng = true) (h3 : keepB b0 l st = true) : lifeC b0 l s e g st ng = 0 ∧ lifeV b0 l s e g st ng = lifeX l ng := by
  have c : lifeC b0 l s e g st ng = 0 := by rw [lifeC, if_pos h, if_pos h2, if_pos h3]
  exact ⟨c, by rw [lifeV, if_pos c]⟩
theorem lifeX_told {l ng : Int} (h : ¬ l = -1) : lifeX l ng = l := by rw [lifeX, if_neg h]
theorem lifeX_not {ng : Int} : lifeX (-1) ng = ng := by rw [lifeX, if_pos rfl]
theorem mayKeep_any (st : Int) (w : World) : Calls Tryz.prog 111 #[.int .i64 st] w fun r w' => r = .returned (.bool (statB st)) ∧ w' = w := by
  by_cases c1 : st = 200
  · subst c1
    have e : statB 200 = true := by decide
    rw [e]
    go_enter Tryz.func111, Tryz.ntmps111
    go_wp2
    go_ret
    exact ⟨rfl, rfl⟩
  by_cases c2 : st = 404
  · subst c2
    have e : statB 404 = true := by decide
    rw [e]
    go_enter Tryz.func111, Tryz.ntmps111
    go_wp2
    go_ret
    exact ⟨rfl, rfl⟩
  by_cases c3 : st = 410
  · subst c3
    have e : statB 410 = true := by decide
    rw [e]
    go_enter Tryz.func111, Tryz.ntmps111
    go_wp2
    go_ret
    exact ⟨rfl, rfl⟩
  have e : statB st = false := by simp [statB, c1, c2, c3]
  rw [e]
  have d1 : (st == 200) = false := by simpa using c1
  have d2 : (st == 404) = false := by simpa using c2
  have d3 : (st == 410) = false := by simpa using c3
  go_enter Tryz.func111, Tryz.ntmps111
  go_wp2
  go_ret
  exact ⟨rfl, rfl⟩
theorem l1In_all (x lo hi : Int) (w : World) : Calls Tryz.prog 85 #[.int .i64 x, .int .i64 lo, .int .i64 hi] w fun r w' => r = .returned (.bool (decide (lo ≤ x) && decide (x ≤ hi))) ∧ w' = w := by
  by_cases c1 : lo ≤ x
  · by_cases c2 : x ≤ hi
    · have e : (decide (lo ≤ x) && decide (x ≤ hi)) = true := by simp [c1, c2]
      rw [e]
      have d2 : decide (x ≤ hi) = true := by simp [c2]
      go_enter Tryz.func85, Tryz.ntmps85
      go_wp2
      go_ret
      exact ⟨rfl, rfl⟩
    · have e : (decide (lo ≤ x) && decide (x ≤ hi)) = false := by simp [c2]
      rw [e]
      have d2 : decide (x ≤ hi) = false := by simp [c2]
      go_enter Tryz.func85, Tryz.ntmps85
      go_wp2
      go_ret
      exact ⟨rfl, rfl⟩
  · have e : (decide (lo ≤ x) && decide (x ≤ hi)) = false := by simp [c1]
    rw [e]
    go_enter Tryz.func85, Tryz.ntmps85
    go_wp2
    go_ret
    exact ⟨rfl, rfl⟩
def lifeT (b0 : Bool) (l st ng : Int) : Value := .tuple #[.int .i64 (if keepB b0 l st = true then lifeX l ng else 0), .bool (keepB b0 l st)]
set_option maxHeartbeats 4000000 in
theorem l6Life_any (w : World) (B : Nat) (b0 b1 b2 : Bool) (l s e g st ng : Int) (hp : PolAt w B b0 b1 b2 l s e g) :
    Calls Tryz.prog 199 #[.pointer (some ⟨B, 0, none⟩), .int .i64 st, .int .i64 ng] w fun r w' => r = .returned (lifeT b0 l st ng) ∧ w' = w := by
  obtain ⟨c0, _, _, c3, _, _, _, _, _⟩ := hp
  cases b0
  · by_cases hl : l = -1
    · subst hl
      by_cases h200 : st = 200
      · subst h200
        have e : lifeT false (-1) 200 ng = .tuple #[.int .i64 0, .bool false] := by have k : keepB false (-1) 200 = false := (by decide); simp [lifeT, k]
        rw [e]
        go_enter Tryz.func199, Tryz.ntmps199
        go_wp2_with fail
        go_ret2
        exact ⟨rfl, rfl⟩
      by_cases h404 : st = 404
      · subst h404
        have e : lifeT false (-1) 404 ng = .tuple #[.int .i64 ng, .bool true] := by have k : keepB false (-1) 404 = true := (by decide); simp [lifeT, k, lifeX_not]
        rw [e]
        go_enter Tryz.func199, Tryz.ntmps199
        go_wp2_with fail
        go_ret2
        exact ⟨rfl, rfl⟩
      by_cases h410 : st = 410
      · subst h410
        have e : lifeT false (-1) 410 ng = .tuple #[.int .i64 ng, .bool true] := by have k : keepB false (-1) 410 = true := (by decide); simp [lifeT, k, lifeX_not]
        rw [e]
        go_enter Tryz.func199, Tryz.ntmps199
        go_wp2_with fail
        go_ret2
        exact ⟨rfl, rfl⟩
      have e : lifeT false (-1) st ng = .tuple #[.int .i64 0, .bool false] := by have k : keepB false (-1) st = false := (by simp [keepB, statB, h200, h404, h410]); simp [lifeT, k]
      rw [e]
      have d1 : (st != 200) = true := by simpa using h200
      have d2 : (st != 404) = true := by simpa using h404
      have d3 : (st != 410) = true := by simpa using h410
      have d4 : (st == 200) = false := by simpa using h200
      go_enter Tryz.func199, Tryz.ntmps199
      go_wp2_with fail
      go_ret2
      exact ⟨rfl, rfl⟩
    · have hl1 : (l != -1) = true := by simpa using hl
      by_cases h200 : st = 200
      · subst h200
        have e : lifeT false l 200 ng = .tuple #[.int .i64 l, .bool true] := by have k : keepB false l 200 = true := (by simp [keepB, statB, hl]); simp [lifeT, k, lifeX_told hl]
        rw [e]
        go_enter Tryz.func199, Tryz.ntmps199
        go_wp2_with fail
        go_ret2
        exact ⟨rfl, rfl⟩
      by_cases h404 : st = 404
      · subst h404
        have e : lifeT false l 404 ng = .tuple #[.int .i64 l, .bool true] := by have k : keepB false l 404 = true := (by simp [keepB, statB, hl]); simp [lifeT, k, lifeX_told hl]
        rw [e]
        go_enter Tryz.func199, Tryz.ntmps199
        go_wp2_with fail
        go_ret2
        exact ⟨rfl, rfl⟩
      by_cases h410 : st = 410
      · subst h410
        have e : lifeT false l 410 ng = .tuple #[.int .i64 l, .bool true] := by have k : keepB false l 410 = true := (by simp [keepB, statB, hl]); simp [lifeT, k, lifeX_told hl]
        rw [e]
        go_enter Tryz.func199, Tryz.ntmps199
        go_wp2_with fail
        go_ret2
        exact ⟨rfl, rfl⟩
      have e : lifeT false l st ng = .tuple #[.int .i64 0, .bool false] := by have k : keepB false l st = false := (by simp [keepB, statB, h200, h404, h410]); simp [lifeT, k]
      rw [e]
      have d1 : (st != 200) = true := by simpa using h200
      have d2 : (st != 404) = true := by simpa using h404
      have d3 : (st != 410) = true := by simpa using h410
      have d4 : (st == 200) = false := by simpa using h200
      go_enter Tryz.func199, Tryz.ntmps199
      go_wp2_with fail
      go_ret2
      exact ⟨rfl, rfl⟩
  · have e : lifeT true l st ng = .tuple #[.int .i64 0, .bool false] := by have k : keepB true l st = false := (by simp [keepB]); simp [lifeT, k]
    rw [e]
    go_enter Tryz.func199, Tryz.ntmps199
    go_wp2_with fail
    go_ret2
    exact ⟨rfl, rfl⟩
set_option maxHeartbeats 8000000 in
theorem specLife_any (b0 b1 b2 : Bool) (l s e g st ng : Int) (w : World) :
    Calls Tryz.prog 153 #[.agg #[.bool b0, .bool b1, .bool b2, .int .i64 l, .int .i64 s, .int .i64 e, .int .i64 g], .int .i64 st, .int .i64 ng] w fun r w' => r = .returned (.agg #[.int .i64 (lifeC b0 l s e g st ng), .int .i64 (lifeV b0 l s e g st ng)]) ∧ Below w.heap.size w w' := by
  have HP : Hid (∀ w, Calls Tryz.prog 198 #[.agg #[.bool b0, .bool b1, .bool b2, .int .i64 l, .int .i64 s, .int .i64 e, .int .i64 g]] w fun r w' => r = .returned (.int .i64 (polC l s e g)) ∧ Below w.heap.size w w') := specPol_any b0 b1 b2 l s e g
  have HT : Hid (∀ x w, Calls Tryz.prog 127 #[.int .i64 x] w fun r w' => r = .returned (.bool (timeB x)) ∧ w' = w) := l1Time_all
  have K0 : Hid (∀ w1, Below (w.heap.size + 2) ((w.alloc (.cells #[.bool b0, .bool b1, .bool b2, .int .i64 l, .int .i64 s, .int .i64 e, .int .i64 g] 155)).alloc (.cells #[.int .i64 0, .int .i64 0] 126)) w1 → Below w.heap.size w w1 ∧ PolAt w1 w.heap.size b0 b1 b2 l s e g ∧ IR w1 (w.heap.size + 1) (.int .i64 0) (.int .i64 0)) := fun w1 hb => by
    have a1 : Below w.heap.size w (w.alloc (.cells #[.bool b0, .bool b1, .bool b2, .int .i64 l, .int .i64 s, .int .i64 e, .int .i64 g] 155)) := (Below.refl _ _).alloc (Nat.le_refl _) _
    have p1 := PolAt.new w b0 b1 b2 l s e g 155
    have i1 := IR.new (w.alloc (.cells #[.bool b0, .bool b1, .bool b2, .int .i64 l, .int .i64 s, .int .i64 e, .int .i64 g] 155)) (.int .i64 0) (.int .i64 0) 126
    have a2 : Below (w.alloc (.cells #[.bool b0, .bool b1, .bool b2, .int .i64 l, .int .i64 s, .int .i64 e, .int .i64 g] 155)).heap.size (w.alloc (.cells #[.bool b0, .bool b1, .bool b2, .int .i64 l, .int .i64 s, .int .i64 e, .int .i64 g] 155)) ((w.alloc (.cells #[.bool b0, .bool b1, .bool b2, .int .i64 l, .int .i64 s, .int .i64 e, .int .i64 g] 155)).alloc (.cells #[.int .i64 0, .int .i64 0] 126)) := (Below.refl _ _).alloc (Nat.le_refl _) _
    have ez : (w.alloc (.cells #[.bool b0, .bool b1, .bool b2, .int .i64 l, .int .i64 s, .int .i64 e, .int .i64 g] 155)).heap.size = w.heap.size + 1 := by simp
    have hb' : Below ((w.alloc (.cells #[.bool b0, .bool b1, .bool b2, .int .i64 l, .int .i64 s, .int .i64 e, .int .i64 g] 155)).alloc (.cells #[.int .i64 0, .int .i64 0] 126)).heap.size ((w.alloc (.cells #[.bool b0, .bool b1, .bool b2, .int .i64 l, .int .i64 s, .int .i64 e, .int .i64 g] 155)).alloc (.cells #[.int .i64 0, .int .i64 0] 126)) w1 := by simpa using hb
    refine ⟨a1.trans ((a2.mono (by simp)).trans (hb.mono (by omega))), (p1.keep a2).keep hb', ?_⟩
    rw [ez] at i1
    exact i1.keep hb'
  cases hp : polB l s e g
  · rw [(life_pol hp).1, (life_pol hp).2]
    rw [polC_bad hp] at HP
    go_enter Tryz.func153, Tryz.ntmps153
    go_wp2_with fail
    refine (HP.out _).mono ?_
    rintro r w1 ⟨rfl, hb1⟩
    have K1 : Hid (Below w.heap.size w w1 ∧ PolAt w1 w.heap.size b0 b1 b2 l s e g ∧ IR w1 (w.heap.size + 1) (.int .i64 0) (.int .i64 0)) := K0.out w1 (by simpa using hb1)
    clear hb1 K0
    obtain ⟨r0, r1, rf, _⟩ := K1.out.2.2
    have rf0 := rf 0
    have rf1 := rf 1
    clear rf
    go_wp2_with fail
    refine bodyPost_ret (v := .agg #[.int .i64 3, .int .i64 0]) ?_ rfl ⟨rfl, (K1.out.1.setCell (by simp) _).setCell (by simp) _⟩
    simp [results, Tryz.results153, go_sem, r0, r1]
  rw [polC_ok hp] at HP
  have HI : Hid (∀ w, Calls Tryz.prog 85 #[.int .i64 st, .int .i64 200, .int .i64 599] w fun r w' => r = .returned (.bool (decide (200 ≤ st) && decide (st ≤ 599))) ∧ w' = w) := l1In_all st 200 599
  cases hr : (decide (200 ≤ st) && decide (st ≤ 599))
  · have hq : rangeB st ng = false := by rw [rangeB, hr]; rfl
    rw [(life_range hp hq).1, (life_range hp hq).2]
    rw [hr] at HI
    go_enter Tryz.func153, Tryz.ntmps153
    go_wp2_with fail
    refine (HP.out _).mono ?_
    rintro r w1 ⟨rfl, hb1⟩
    have K1 : Hid (Below w.heap.size w w1 ∧ PolAt w1 w.heap.size b0 b1 b2 l s e g ∧ IR w1 (w.heap.size + 1) (.int .i64 0) (.int .i64 0)) := K0.out w1 (by simpa using hb1)
    clear hb1 K0
    go_wp2_with fail
    refine (HI.out _).mono ?_
    rintro r w2 ⟨rfl, rfl⟩
    obtain ⟨r0, r1, rf, _⟩ := K1.out.2.2
    have rf0 := rf 0
    have rf1 := rf 1
    clear rf
    go_wp2_with fail
    refine bodyPost_ret (v := .agg #[.int .i64 3, .int .i64 0]) ?_ rfl ⟨rfl, (K1.out.1.setCell (by simp) _).setCell (by simp) _⟩
    simp [results, Tryz.results153, go_sem, r0, r1]
  rw [hr] at HI
  cases ht : timeB ng
  · have hq : rangeB st ng = false := by rw [rangeB, hr, ht]; rfl
    rw [(life_range hp hq).1, (life_range hp hq).2]
    go_enter Tryz.func153, Tryz.ntmps153
    go_wp2_with fail
    refine (HP.out _).mono ?_
    rintro r w1 ⟨rfl, hb1⟩
    have K1 : Hid (Below w.heap.size w w1 ∧ PolAt w1 w.heap.size b0 b1 b2 l s e g ∧ IR w1 (w.heap.size + 1) (.int .i64 0) (.int .i64 0)) := K0.out w1 (by simpa using hb1)
    clear hb1 K0
    go_wp2_with fail
    refine (HI.out _).mono ?_
    rintro r w2 ⟨rfl, rfl⟩
    go_wp2_with fail
    refine (HT.out ng _).mono ?_
    rintro r w2 ⟨rfl, rfl⟩
    rw [ht]
    obtain ⟨r0, r1, rf, _⟩ := K1.out.2.2
    have rf0 := rf 0
    have rf1 := rf 1
    clear rf
    go_wp2_with fail
    refine bodyPost_ret (v := .agg #[.int .i64 3, .int .i64 0]) ?_ rfl ⟨rfl, (K1.out.1.setCell (by simp) _).setCell (by simp) _⟩
    simp [results, Tryz.results153, go_sem, r0, r1]
  have hq : rangeB st ng = true := by rw [rangeB, hr, ht]; rfl
  have HL : Hid (∀ X, PolAt X w.heap.size b0 b1 b2 l s e g → Calls Tryz.prog 199 #[.pointer (some ⟨w.heap.size, 0, none⟩), .int .i64 st, .int .i64 ng] X fun r w' => r = .returned (lifeT b0 l st ng) ∧ w' = X) := fun X hX => l6Life_any X _ b0 b1 b2 l s e g st ng hX
  unfold lifeT at HL
  cases hk : keepB b0 l st
  · rw [(life_none hp hq hk).1, (life_none hp hq hk).2]
    rw [hk, if_neg (by decide)] at HL
    go_enter Tryz.func153, Tryz.ntmps153
    go_wp2_with fail
    refine (HP.out _).mono ?_
    rintro r w1 ⟨rfl, hb1⟩
    have K1 : Hid (Below w.heap.size w w1 ∧ PolAt w1 w.heap.size b0 b1 b2 l s e g ∧ IR w1 (w.heap.size + 1) (.int .i64 0) (.int .i64 0)) := K0.out w1 (by simpa using hb1)
    clear hb1 K0
    go_wp2_with fail
    refine (HI.out _).mono ?_
    rintro r w2 ⟨rfl, rfl⟩
    go_wp2_with fail
    refine (HT.out ng _).mono ?_
    rintro r w2 ⟨rfl, rfl⟩
    rw [ht]
    go_wp2_with fail
    refine (HL.out _ K1.out.2.1).mono ?_
    rintro r w2 ⟨rfl, rfl⟩
    obtain ⟨r0, r1, rf, _⟩ := K1.out.2.2
    have rf0 := rf 0
    have rf1 := rf 1
    clear rf
    go_wp2_with fail
    refine bodyPost_ret (v := .agg #[.int .i64 4, .int .i64 0]) ?_ rfl ⟨rfl, (K1.out.1.setCell (by simp) _).setCell (by simp) _⟩
    simp [results, Tryz.results153, go_sem, r0, r1]
  rw [(life_ok hp hq hk).1, (life_ok hp hq hk).2]
  rw [hk, if_pos rfl] at HL
  generalize lifeX l ng = x at *
  go_enter Tryz.func153, Tryz.ntmps153
  go_wp2_with fail
  refine (HP.out _).mono ?_
  rintro r w1 ⟨rfl, hb1⟩
  have K1 : Hid (Below w.heap.size w w1 ∧ PolAt w1 w.heap.size b0 b1 b2 l s e g ∧ IR w1 (w.heap.size + 1) (.int .i64 0) (.int .i64 0)) := K0.out w1 (by simpa using hb1)
  clear hb1 K0
  go_wp2_with fail
  refine (HI.out _).mono ?_
  rintro r w2 ⟨rfl, rfl⟩
  go_wp2_with fail
  refine (HT.out ng _).mono ?_
  rintro r w2 ⟨rfl, rfl⟩
  rw [ht]
  go_wp2_with fail
  refine (HL.out _ K1.out.2.1).mono ?_
  rintro r w2 ⟨rfl, rfl⟩
  obtain ⟨r0, r1, rf, _⟩ := K1.out.2.2
  have rf0 := rf 0
  have rf1 := rf 1
  clear rf
  go_wp2_with fail
  refine bodyPost_ret (v := .agg #[.int .i64 0, .int .i64 x]) ?_ rfl ⟨rfl, (K1.out.1.setCell (by simp) _).setCell (by simp) _⟩
  simp [results, Tryz.results153, go_sem, r0, r1]
set_option maxHeartbeats 8000000 in
theorem implLife_any (b0 b1 b2 : Bool) (l s e g st ng : Int) (w : World) :
    Calls Tryz.prog 166 #[.agg #[.bool b0, .bool b1, .bool b2, .int .i64 l, .int .i64 s, .int .i64 e, .int .i64 g], .int .i64 st, .int .i64 ng] w fun r w' => r = .returned (.agg #[.int .i64 (lifeC b0 l s e g st ng), .int .i64 (lifeV b0 l s e g st ng)]) ∧ Below w.heap.size w w' := by
  have HP : Hid (∀ w, Calls Tryz.prog 207 #[.agg #[.bool b0, .bool b1, .bool b2, .int .i64 l, .int .i64 s, .int .i64 e, .int .i64 g]] w fun r w' => r = .returned (.int .i64 (polC l s e g)) ∧ Below w.heap.size w w') := implPol_any b0 b1 b2 l s e g
  have HT : Hid (∀ x w, Calls Tryz.prog 131 #[.int .i64 x] w fun r w' => r = .returned (.bool (timeB x)) ∧ w' = w) := isTime_all
  have K0 : Hid (∀ w1, Below (w.heap.size + 2) ((w.alloc (.cells #[.bool b0, .bool b1, .bool b2, .int .i64 l, .int .i64 s, .int .i64 e, .int .i64 g] 155)).alloc (.cells #[.int .i64 0, .int .i64 0] 126)) w1 → Below w.heap.size w w1 ∧ PolAt w1 w.heap.size b0 b1 b2 l s e g ∧ IR w1 (w.heap.size + 1) (.int .i64 0) (.int .i64 0)) := fun w1 hb => by
    have a1 : Below w.heap.size w (w.alloc (.cells #[.bool b0, .bool b1, .bool b2, .int .i64 l, .int .i64 s, .int .i64 e, .int .i64 g] 155)) := (Below.refl _ _).alloc (Nat.le_refl _) _
    have p1 := PolAt.new w b0 b1 b2 l s e g 155
    have i1 := IR.new (w.alloc (.cells #[.bool b0, .bool b1, .bool b2, .int .i64 l, .int .i64 s, .int .i64 e, .int .i64 g] 155)) (.int .i64 0) (.int .i64 0) 126
    have a2 : Below (w.alloc (.cells #[.bool b0, .bool b1, .bool b2, .int .i64 l, .int .i64 s, .int .i64 e, .int .i64 g] 155)).heap.size (w.alloc (.cells #[.bool b0, .bool b1, .bool b2, .int .i64 l, .int .i64 s, .int .i64 e, .int .i64 g] 155)) ((w.alloc (.cells #[.bool b0, .bool b1, .bool b2, .int .i64 l, .int .i64 s, .int .i64 e, .int .i64 g] 155)).alloc (.cells #[.int .i64 0, .int .i64 0] 126)) := (Below.refl _ _).alloc (Nat.le_refl _) _
    have ez : (w.alloc (.cells #[.bool b0, .bool b1, .bool b2, .int .i64 l, .int .i64 s, .int .i64 e, .int .i64 g] 155)).heap.size = w.heap.size + 1 := by simp
    have hb' : Below ((w.alloc (.cells #[.bool b0, .bool b1, .bool b2, .int .i64 l, .int .i64 s, .int .i64 e, .int .i64 g] 155)).alloc (.cells #[.int .i64 0, .int .i64 0] 126)).heap.size ((w.alloc (.cells #[.bool b0, .bool b1, .bool b2, .int .i64 l, .int .i64 s, .int .i64 e, .int .i64 g] 155)).alloc (.cells #[.int .i64 0, .int .i64 0] 126)) w1 := by simpa using hb
    refine ⟨a1.trans ((a2.mono (by simp)).trans (hb.mono (by omega))), (p1.keep a2).keep hb', ?_⟩
    rw [ez] at i1
    exact i1.keep hb'
  cases hp : polB l s e g
  · rw [(life_pol hp).1, (life_pol hp).2]
    rw [polC_bad hp] at HP
    go_enter Tryz.func166, Tryz.ntmps166
    go_wp2_with fail
    refine (HP.out _).mono ?_
    rintro r w1 ⟨rfl, hb1⟩
    have K1 : Hid (Below w.heap.size w w1 ∧ PolAt w1 w.heap.size b0 b1 b2 l s e g ∧ IR w1 (w.heap.size + 1) (.int .i64 0) (.int .i64 0)) := K0.out w1 (by simpa using hb1)
    clear hb1 K0
    obtain ⟨r0, r1, rf, _⟩ := K1.out.2.2
    have rf0 := rf 0
    have rf1 := rf 1
    clear rf
    go_wp2_with fail
    refine bodyPost_ret (v := .agg #[.int .i64 3, .int .i64 0]) ?_ rfl ⟨rfl, (K1.out.1.setCell (by simp) _).setCell (by simp) _⟩
    simp [results, Tryz.results166, go_sem, r0, r1]
  rw [polC_ok hp] at HP
  have HM : Hid (∀ w, Calls Tryz.prog 111 #[.int .i64 st] w fun r w' => r = .returned (.bool (statB st)) ∧ w' = w) := mayKeep_any st
  by_cases h1 : st < 200
  · have hq : rangeB st ng = false := by simp [rangeB]; omega
    rw [(life_range hp hq).1, (life_range hp hq).2]
    go_enter Tryz.func166, Tryz.ntmps166
    go_wp2_with fail
    refine (HP.out _).mono ?_
    rintro r w1 ⟨rfl, hb1⟩
    have K1 : Hid (Below w.heap.size w w1 ∧ PolAt w1 w.heap.size b0 b1 b2 l s e g ∧ IR w1 (w.heap.size + 1) (.int .i64 0) (.int .i64 0)) := K0.out w1 (by simpa using hb1)
    clear hb1 K0
    obtain ⟨r0, r1, rf, _⟩ := K1.out.2.2
    have rf0 := rf 0
    have rf1 := rf 1
    clear rf
    go_wp2_with fail
    refine bodyPost_ret (v := .agg #[.int .i64 3, .int .i64 0]) ?_ rfl ⟨rfl, (K1.out.1.setCell (by simp) _).setCell (by simp) _⟩
    simp [results, Tryz.results166, go_sem, r0, r1]
  by_cases h2 : 599 < st
  · have hq : rangeB st ng = false := by simp [rangeB]; omega
    have d2 : decide (599 < st) = true := by simp [h2]
    rw [(life_range hp hq).1, (life_range hp hq).2]
    go_enter Tryz.func166, Tryz.ntmps166
    go_wp2_with fail
    refine (HP.out _).mono ?_
    rintro r w1 ⟨rfl, hb1⟩
    have K1 : Hid (Below w.heap.size w w1 ∧ PolAt w1 w.heap.size b0 b1 b2 l s e g ∧ IR w1 (w.heap.size + 1) (.int .i64 0) (.int .i64 0)) := K0.out w1 (by simpa using hb1)
    clear hb1 K0
    obtain ⟨r0, r1, rf, _⟩ := K1.out.2.2
    have rf0 := rf 0
    have rf1 := rf 1
    clear rf
    go_wp2_with fail
    refine bodyPost_ret (v := .agg #[.int .i64 3, .int .i64 0]) ?_ rfl ⟨rfl, (K1.out.1.setCell (by simp) _).setCell (by simp) _⟩
    simp [results, Tryz.results166, go_sem, r0, r1]
  have d2 : decide (599 < st) = false := by simp; omega
  cases ht : timeB ng
  · have hq : rangeB st ng = false := by rw [rangeB, ht]; simp
    rw [(life_range hp hq).1, (life_range hp hq).2]
    go_enter Tryz.func166, Tryz.ntmps166
    go_wp2_with fail
    refine (HP.out _).mono ?_
    rintro r w1 ⟨rfl, hb1⟩
    have K1 : Hid (Below w.heap.size w w1 ∧ PolAt w1 w.heap.size b0 b1 b2 l s e g ∧ IR w1 (w.heap.size + 1) (.int .i64 0) (.int .i64 0)) := K0.out w1 (by simpa using hb1)
    clear hb1 K0
    go_wp2_with fail
    refine (HT.out ng _).mono ?_
    rintro r w2 ⟨rfl, rfl⟩
    rw [ht]
    obtain ⟨r0, r1, rf, _⟩ := K1.out.2.2
    have rf0 := rf 0
    have rf1 := rf 1
    clear rf
    go_wp2_with fail
    refine bodyPost_ret (v := .agg #[.int .i64 3, .int .i64 0]) ?_ rfl ⟨rfl, (K1.out.1.setCell (by simp) _).setCell (by simp) _⟩
    simp [results, Tryz.results166, go_sem, r0, r1]
  have hq : rangeB st ng = true := by simp [rangeB, ht]; omega
  rcases Bool.eq_false_or_eq_true b0 with hb | hb
  · have HB0 : Hid (b0 = true) := hb
    clear hb
    have hk : keepB b0 l st = false := by simp [keepB, HB0.out]
    rw [(life_none hp hq hk).1, (life_none hp hq hk).2]
    go_enter Tryz.func166, Tryz.ntmps166
    go_wp2_with fail
    refine (HP.out _).mono ?_
    rintro r w1 ⟨rfl, hb1⟩
    have K1 : Hid (Below w.heap.size w w1 ∧ PolAt w1 w.heap.size b0 b1 b2 l s e g ∧ IR w1 (w.heap.size + 1) (.int .i64 0) (.int .i64 0)) := K0.out w1 (by simpa using hb1)
    clear hb1 K0
    obtain ⟨c0, _, _, c3, _, _, _, _, _⟩ := K1.out.2.1
    rw [HB0.out] at c0
    go_wp2_with fail
    refine (HT.out ng _).mono ?_
    rintro r w2 ⟨rfl, rfl⟩
    rw [ht]
    obtain ⟨r0, r1, rf, _⟩ := K1.out.2.2
    have rf0 := rf 0
    have rf1 := rf 1
    clear rf
    go_wp2_with fail
    refine bodyPost_ret (v := .agg #[.int .i64 4, .int .i64 0]) ?_ rfl ⟨rfl, (K1.out.1.setCell (by simp) _).setCell (by simp) _⟩
    simp [results, Tryz.results166, go_sem, r0, r1]
  have HB0 : Hid (b0 = false) := hb
  clear hb
  cases hs : statB st
  · have hk : keepB b0 l st = false := by simp [keepB, hs]
    rw [(life_none hp hq hk).1, (life_none hp hq hk).2]
    go_enter Tryz.func166, Tryz.ntmps166
    go_wp2_with fail
    refine (HP.out _).mono ?_
    rintro r w1 ⟨rfl, hb1⟩
    have K1 : Hid (Below w.heap.size w w1 ∧ PolAt w1 w.heap.size b0 b1 b2 l s e g ∧ IR w1 (w.heap.size + 1) (.int .i64 0) (.int .i64 0)) := K0.out w1 (by simpa using hb1)
    clear hb1 K0
    obtain ⟨c0, _, _, c3, _, _, _, _, _⟩ := K1.out.2.1
    rw [HB0.out] at c0
    go_wp2_with fail
    refine (HT.out ng _).mono ?_
    rintro r w2 ⟨rfl, rfl⟩
    rw [ht]
    go_wp2_with fail
    refine (HM.out _).mono ?_
    rintro r w2 ⟨rfl, rfl⟩
    rw [hs]
    obtain ⟨r0, r1, rf, _⟩ := K1.out.2.2
    have rf0 := rf 0
    have rf1 := rf 1
    clear rf
    go_wp2_with fail
    refine bodyPost_ret (v := .agg #[.int .i64 4, .int .i64 0]) ?_ rfl ⟨rfl, (K1.out.1.setCell (by simp) _).setCell (by simp) _⟩
    simp [results, Tryz.results166, go_sem, r0, r1]
  by_cases hl : l = -1
  · have HLM : Hid (l = -1) := hl
    clear hl
    by_cases h200 : st = 200
    · have d200 : (st == 200) = true := by simp [h200]
      have hk : keepB b0 l st = false := by simp [keepB, h200, HLM.out]
      clear h200
      rw [(life_none hp hq hk).1, (life_none hp hq hk).2]
      go_enter Tryz.func166, Tryz.ntmps166
      go_wp2_with fail
      refine (HP.out _).mono ?_
      rintro r w1 ⟨rfl, hb1⟩
      have K1 : Hid (Below w.heap.size w w1 ∧ PolAt w1 w.heap.size b0 b1 b2 l s e g ∧ IR w1 (w.heap.size + 1) (.int .i64 0) (.int .i64 0)) := K0.out w1 (by simpa using hb1)
      clear hb1 K0
      obtain ⟨c0, _, _, c3, _, _, _, _, _⟩ := K1.out.2.1
      rw [HB0.out] at c0
      rw [HLM.out] at c3
      go_wp2_with fail
      refine (HT.out ng _).mono ?_
      rintro r w2 ⟨rfl, rfl⟩
      rw [ht]
      go_wp2_with fail
      refine (HM.out _).mono ?_
      rintro r w2 ⟨rfl, rfl⟩
      rw [hs]
      obtain ⟨r0, r1, rf, _⟩ := K1.out.2.2
      have rf0 := rf 0
      have rf1 := rf 1
      clear rf
      go_wp2_with fail
      refine bodyPost_ret (v := .agg #[.int .i64 4, .int .i64 0]) ?_ rfl ⟨rfl, (K1.out.1.setCell (by simp) _).setCell (by simp) _⟩
      simp [results, Tryz.results166, go_sem, r0, r1]
    have d200 : (st == 200) = false := by simpa using h200
    have hk : keepB b0 l st = true := by simp [keepB, hs, h200, HB0.out]
    have hx : lifeX l ng = ng := by rw [HLM.out, lifeX_not]
    rw [(life_ok hp hq hk).1, (life_ok hp hq hk).2, hx]
    go_enter Tryz.func166, Tryz.ntmps166
    go_wp2_with fail
    refine (HP.out _).mono ?_
    rintro r w1 ⟨rfl, hb1⟩
    have K1 : Hid (Below w.heap.size w w1 ∧ PolAt w1 w.heap.size b0 b1 b2 l s e g ∧ IR w1 (w.heap.size + 1) (.int .i64 0) (.int .i64 0)) := K0.out w1 (by simpa using hb1)
    clear hb1 K0
    obtain ⟨c0, _, _, c3, _, _, _, _, _⟩ := K1.out.2.1
    rw [HB0.out] at c0
    rw [HLM.out] at c3
    go_wp2_with fail
    refine (HT.out ng _).mono ?_
    rintro r w2 ⟨rfl, rfl⟩
    rw [ht]
    go_wp2_with fail
    refine (HM.out _).mono ?_
    rintro r w2 ⟨rfl, rfl⟩
    rw [hs]
    obtain ⟨r0, r1, rf, _⟩ := K1.out.2.2
    have rf0 := rf 0
    have rf1 := rf 1
    clear rf
    go_wp2_with fail
    refine bodyPost_ret (v := .agg #[.int .i64 0, .int .i64 ng]) ?_ rfl ⟨rfl, (K1.out.1.setCell (by simp) _).setCell (by simp) _⟩
    simp [results, Tryz.results166, go_sem, r0, r1]
  have dl : (l == -1) = false := by simpa using hl
  have hk : keepB b0 l st = true := by simp [keepB, hs, hl, HB0.out]
  rw [(life_ok hp hq hk).1, (life_ok hp hq hk).2, lifeX_told hl]
  by_cases h200 : st = 200
  · have d200 : (st == 200) = true := by simp [h200]
    clear h200
    go_enter Tryz.func166, Tryz.ntmps166
    go_wp2_with fail
    refine (HP.out _).mono ?_
    rintro r w1 ⟨rfl, hb1⟩
    have K1 : Hid (Below w.heap.size w w1 ∧ PolAt w1 w.heap.size b0 b1 b2 l s e g ∧ IR w1 (w.heap.size + 1) (.int .i64 0) (.int .i64 0)) := K0.out w1 (by simpa using hb1)
    clear hb1 K0
    obtain ⟨c0, _, _, c3, _, _, _, _, _⟩ := K1.out.2.1
    rw [HB0.out] at c0
    go_wp2_with fail
    refine (HT.out ng _).mono ?_
    rintro r w2 ⟨rfl, rfl⟩
    rw [ht]
    go_wp2_with fail
    refine (HM.out _).mono ?_
    rintro r w2 ⟨rfl, rfl⟩
    rw [hs]
    obtain ⟨r0, r1, rf, _⟩ := K1.out.2.2
    have rf0 := rf 0
    have rf1 := rf 1
    clear rf
    go_wp2_with fail
    refine bodyPost_ret (v := .agg #[.int .i64 0, .int .i64 l]) ?_ rfl ⟨rfl, (K1.out.1.setCell (by simp) _).setCell (by simp) _⟩
    simp [results, Tryz.results166, go_sem, r0, r1]
  have d200 : (st == 200) = false := by simpa using h200
  go_enter Tryz.func166, Tryz.ntmps166
  go_wp2_with fail
  refine (HP.out _).mono ?_
  rintro r w1 ⟨rfl, hb1⟩
  have K1 : Hid (Below w.heap.size w w1 ∧ PolAt w1 w.heap.size b0 b1 b2 l s e g ∧ IR w1 (w.heap.size + 1) (.int .i64 0) (.int .i64 0)) := K0.out w1 (by simpa using hb1)
  clear hb1 K0
  obtain ⟨c0, _, _, c3, _, _, _, _, _⟩ := K1.out.2.1
  rw [HB0.out] at c0
  go_wp2_with fail
  refine (HT.out ng _).mono ?_
  rintro r w2 ⟨rfl, rfl⟩
  rw [ht]
  go_wp2_with fail
  refine (HM.out _).mono ?_
  rintro r w2 ⟨rfl, rfl⟩
  rw [hs]
  obtain ⟨r0, r1, rf, _⟩ := K1.out.2.2
  have rf0 := rf 0
  have rf1 := rf 1
  clear rf
  go_wp2_with fail
  refine bodyPost_ret (v := .agg #[.int .i64 0, .int .i64 l]) ?_ rfl ⟨rfl, (K1.out.1.setCell (by simp) _).setCell (by simp) _⟩
  simp [results, Tryz.results166, go_sem, r0, r1]
end Go.Proofs.YtopkidfbkhjaeaaGreatDoor
/-
  What AddTime's model and AddTime itself answer, for any two numbers: one contract a function and a case.
-/
namespace Go.Proofs.YtopkidfbkhjaeaaGreatDoor
open Go.ChangeShapes Go.WideShapes Go.ChangeAt Go.RowKit
set_option maxHeartbeats 400000 in
theorem implAdd_bad (a b : Int) (h : a < 0 ∨ 1000000000000000 < a ∨ b < 0 ∨ 1000000000000000 < b) (w : World) :
    Calls Tryz.prog 132 #[.int .i64 a, .int .i64 b] w fun e w' => e = .returned (.agg #[.int .i64 3, .int .i64 0]) ∧ Below w.heap.size w w' := by
  by_cases c1 : a < 0
  · clear h
    go_enter Tryz.func132, Tryz.ntmps132
    go_wp2
    exact bodyPost_ret (v := .agg #[.int .i64 3, .int .i64 0]) (by simp [results, Tryz.results132, go_sem]) rfl ⟨rfl, (Below.refl _ _).alloc (Nat.le_refl _) _⟩
  · by_cases c2 : 1000000000000000 < a
    · clear h
      have d2 : decide (a ≤ 1000000000000000) = false := by simp; omega
      go_enter Tryz.func132, Tryz.ntmps132
      go_wp2
      exact bodyPost_ret (v := .agg #[.int .i64 3, .int .i64 0]) (by simp [results, Tryz.results132, go_sem]) rfl ⟨rfl, (Below.refl _ _).alloc (Nat.le_refl _) _⟩
    · have d2 : decide (a ≤ 1000000000000000) = true := by simp; omega
      by_cases c3 : b < 0
      · clear h
        go_enter Tryz.func132, Tryz.ntmps132
        go_wp2
        exact bodyPost_ret (v := .agg #[.int .i64 3, .int .i64 0]) (by simp [results, Tryz.results132, go_sem]) rfl ⟨rfl, (Below.refl _ _).alloc (Nat.le_refl _) _⟩
      · have c4 : 1000000000000000 < b := by omega
        have d4 : decide (b ≤ 1000000000000000) = false := by simp; omega
        clear h
        go_enter Tryz.func132, Tryz.ntmps132
        go_wp2
        exact bodyPost_ret (v := .agg #[.int .i64 3, .int .i64 0]) (by simp [results, Tryz.results132, go_sem]) rfl ⟨rfl, (Below.refl _ _).alloc (Nat.le_refl _) _⟩
set_option maxHeartbeats 400000 in
theorem implAdd_over (a b : Int) (a0 : 0 ≤ a) (a1 : a ≤ 1000000000000000) (b0 : 0 ≤ b) (b1 : b ≤ 1000000000000000) (h : 1000000000000000 ≤ a + b) (w : World) :
    Calls Tryz.prog 132 #[.int .i64 a, .int .i64 b] w fun e w' => e = .returned (.agg #[.int .i64 0, .int .i64 1000000000000000]) ∧ Below w.heap.size w w' := by
  have d2 : decide (a ≤ 1000000000000000) = true := by simp; omega
  have d4 : decide (b ≤ 1000000000000000) = true := by simp; omega
  rcases Int.lt_or_eq_of_le h with h1 | h1
  · have h2 : 1000000000000000 - b < a := by omega
    clear h
    go_enter Tryz.func132, Tryz.ntmps132
    go_wp2
    exact bodyPost_ret (v := .agg #[.int .i64 0, .int .i64 1000000000000000]) (by simp [results, Tryz.results132, go_sem]) rfl ⟨rfl, (Below.refl _ _).alloc (Nat.le_refl _) _⟩
  · obtain rfl : a = 1000000000000000 - b := by omega
    clear h h1
    have e1 : (1000000000000000 - b + b) = 1000000000000000 := by omega
    go_enter Tryz.func132, Tryz.ntmps132
    go_wp2
    exact bodyPost_ret (v := .agg #[.int .i64 0, .int .i64 1000000000000000]) (by simp [results, Tryz.results132, go_sem]) rfl ⟨rfl, (Below.refl _ _).alloc (Nat.le_refl _) _⟩
set_option maxHeartbeats 400000 in
theorem implAdd_under (a b : Int) (a0 : 0 ≤ a) (a1 : a ≤ 1000000000000000) (b0 : 0 ≤ b) (b1 : b ≤ 1000000000000000) (h : a + b < 1000000000000000) (w : World) :
    Calls Tryz.prog 132 #[.int .i64 a, .int .i64 b] w fun e w' => e = .returned (.agg #[.int .i64 0, .int .i64 (a + b)]) ∧ Below w.heap.size w w' := by
  have d2 : decide (a ≤ 1000000000000000) = true := by simp; omega
  have d4 : decide (b ≤ 1000000000000000) = true := by simp; omega
  have h2 : ¬ 1000000000000000 - b < a := by omega
  go_enter Tryz.func132, Tryz.ntmps132
  go_wp2
  exact bodyPost_ret (v := .agg #[.int .i64 0, .int .i64 (a + b)]) (by simp [results, Tryz.results132, go_sem]) rfl ⟨rfl, (Below.refl _ _).alloc (Nat.le_refl _) _⟩
end Go.Proofs.YtopkidfbkhjaeaaGreatDoor
/-
  What is kept with an answer: faults, ages and phases, on both sides.
-/
namespace Go.Proofs.YtopkidfbkhjaeaaGreatDoor
open Go.ChangeShapes Go.WideShapes Go.ChangeAt Go.RowKit
/-- What is kept with an answer, in memory. -/
structure MetaAt (w : World) (b : Nat) (t g l s e : Int) (b1 b2 : Bool) : Prop where
  c0 : w.cell? ⟨b, 0, none⟩ = some (.int .i64 t)
  c1 : w.cell? ⟨b, 1, none⟩ = some (.int .i64 g)
  c2 : w.cell? ⟨b, 2, none⟩ = some (.int .i64 l)
  c3 : w.cell? ⟨b, 3, none⟩ = some (.int .i64 s)
  c4 : w.cell? ⟨b, 4, none⟩ = some (.int .i64 e)
  c5 : w.cell? ⟨b, 5, none⟩ = some (.bool b1)
  c6 : w.cell? ⟨b, 6, none⟩ = some (.bool b2)
  fr : ∀ o, w.frozen? ⟨b, o, none⟩ = false
  lt : b < w.heap.size
theorem MetaAt.keep {w w' : World} {b : Nat} {t g l s e : Int} {b1 b2 : Bool} (k : MetaAt w b t g l s e b1 b2) (hb : Below w.heap.size w w') : MetaAt w' b t g l s e b1 b2 :=
  ⟨by rw [hb.cell (p := ⟨b, 0, none⟩) k.lt]; exact k.c0, by rw [hb.cell (p := ⟨b, 1, none⟩) k.lt]; exact k.c1, by rw [hb.cell (p := ⟨b, 2, none⟩) k.lt]; exact k.c2, by rw [hb.cell (p := ⟨b, 3, none⟩) k.lt]; exact k.c3, by rw [hb.cell (p := ⟨b, 4, none⟩) k.lt]; exact k.c4, by rw [hb.cell (p := ⟨b, 5, none⟩) k.lt]; exact k.c5, by rw [hb.cell (p := ⟨b, 6, none⟩) k.lt]; exact k.c6,
    fun o => by rw [hb.frozen (p := ⟨b, o, none⟩) k.lt]; exact k.fr o, Nat.lt_of_lt_of_le k.lt hb.size⟩
theorem MetaAt.new (w : World) (t g l s e : Int) (b1 b2 : Bool) (x : TypeId) : MetaAt (w.alloc (.cells #[.int .i64 t, .int .i64 g, .int .i64 l, .int .i64 s, .int .i64 e, .bool b1, .bool b2] x)) w.heap.size t g l s e b1 b2 :=
  ⟨by simp, by simp, by simp, by simp, by simp, by simp, by simp, fun o => by simp, by simp⟩
def addT (a b : Int) : Int := if 1000000000000000 < a + b then 1000000000000000 else a + b
theorem addT_time {a b : Int} (ha : 0 ≤ a) (hb : 0 ≤ b) : 0 ≤ addT a b ∧ addT a b ≤ 1000000000000000 := by unfold addT; split <;> omega
def metaB (t g l s e : Int) : Bool := timeB t && timeB g && timeB l && timeB s && timeB e
def metaC (t g l s e : Int) : Int := if metaB t g l s e = true then 0 else 3
theorem metaC_ok {t g l s e : Int} (h : metaB t g l s e = true) : metaC t g l s e = 0 := by rw [metaC, if_pos h]
theorem metaC_bad {t g l s e : Int} (h : metaB t g l s e = false) : metaC t g l s e = 3 := by rw [metaC, if_neg (by rw [h]; decide)]
theorem metaB_of {t g l s e : Int} (h : metaB t g l s e = true) : (0 ≤ t ∧ t ≤ 1000000000000000) ∧ (0 ≤ g ∧ g ≤ 1000000000000000) ∧ (0 ≤ l ∧ l ≤ 1000000000000000) ∧ (0 ≤ s ∧ s ≤ 1000000000000000) ∧ (0 ≤ e ∧ e ≤ 1000000000000000) := by
  simp only [metaB, Bool.and_eq_true] at h
  exact ⟨timeB_of h.1.1.1.1, timeB_of h.1.1.1.2, timeB_of h.1.1.2, timeB_of h.1.2, timeB_of h.2⟩
def askB (t g l s e n : Int) : Bool := metaB t g l s e && timeB n && decide (t ≤ n)
def askM (t g l s e n : Int) : Int := if askB t g l s e n = true then 0 else 3
theorem askM_ok {t g l s e n : Int} (h : askB t g l s e n = true) : askM t g l s e n = 0 := by rw [askM, if_pos h]
theorem askM_bad {t g l s e n : Int} (h : askB t g l s e n = false) : askM t g l s e n = 3 := by rw [askM, if_neg (by rw [h]; decide)]
theorem askB_of {t g l s e n : Int} (h : askB t g l s e n = true) : metaB t g l s e = true ∧ (0 ≤ n ∧ n ≤ 1000000000000000) ∧ t ≤ n := by
  simp only [askB, Bool.and_eq_true, decide_eq_true_eq] at h
  exact ⟨h.1.1, timeB_of h.1.2, h.2⟩
def ageM (t g n : Int) : Int := addT g (n - t)
def ageA (t g l s e n : Int) : Int := if askB t g l s e n = true then ageM t g n else 0
theorem ageA_ok {t g l s e n : Int} (h : askB t g l s e n = true) : ageA t g l s e n = ageM t g n := by rw [ageA, if_pos h]
theorem ageA_bad {t g l s e n : Int} (h : askB t g l s e n = false) : ageA t g l s e n = 0 := by rw [ageA, if_neg (by rw [h]; decide)]
def lifeM (l : Int) (b1 b2 : Bool) : Int := if (b1 || b2) = true then 0 else l
/-- The phase of an answer of this age, with this life. -/
def phaseV (a li s e : Int) (b2 : Bool) : Int := if a < li then 1 else if (!b2 && decide (a < addT li s)) = true then 2 else if a < addT li e then 3 else 0
def phaseM (t g l s e : Int) (b1 b2 : Bool) (n : Int) : Int := phaseV (ageM t g n) (lifeM l b1 b2) s e b2
def phaseA (t g l s e : Int) (b1 b2 : Bool) (n : Int) : Int := if askB t g l s e n = true then phaseM t g l s e b1 b2 n else 0
theorem phaseA_ok {t g l s e n : Int} {b1 b2 : Bool} (h : askB t g l s e n = true) : phaseA t g l s e b1 b2 n = phaseM t g l s e b1 b2 n := by rw [phaseA, if_pos h]
theorem phaseA_bad {t g l s e n : Int} {b1 b2 : Bool} (h : askB t g l s e n = false) : phaseA t g l s e b1 b2 n = 0 := by rw [phaseA, if_neg (by rw [h]; decide)]
theorem phase1 {a li s e : Int} {b2 : Bool} (h : a < li) : phaseV a li s e b2 = 1 := by rw [phaseV, if_pos h]
theorem phase2 {a li s e : Int} {b2 : Bool} (h : ¬ a < li) (h2 : (!b2 && decide (a < addT li s)) = true) : phaseV a li s e b2 = 2 := by rw [phaseV, if_neg h, if_pos h2]
theorem phase3 {a li s e : Int} {b2 : Bool} (h : ¬ a < li) (h2 : ¬ (!b2 && decide (a < addT li s)) = true) (h3 : a < addT li e) : phaseV a li s e b2 = 3 := by rw [phaseV, if_neg h, if_neg h2, if_pos h3]
theorem phase0 {a li s e : Int} {b2 : Bool} (h : ¬ a < li) (h2 : ¬ (!b2 && decide (a < addT li s)) = true) (h3 : ¬ a < addT li e) : phaseV a li s e b2 = 0 := by rw [phaseV, if_neg h, if_neg h2, if_neg h3]
theorem lifeM_time {l : Int} {b1 b2 : Bool} (h : 0 ≤ l ∧ l ≤ 1000000000000000) : 0 ≤ lifeM l b1 b2 ∧ lifeM l b1 b2 ≤ 1000000000000000 := by unfold lifeM; split <;> omega
theorem ageM_time {t g n : Int} (h : 0 ≤ g) (h2 : t ≤ n) : 0 ≤ ageM t g n ∧ ageM t g n ≤ 1000000000000000 := addT_time h (by omega)
theorem l1Min_all (x y : Int) (w : World) : Calls Tryz.prog 200 #[.int .i64 x, .int .i64 y] w fun r w' => r = .returned (.int .i64 (if x < y then x else y)) ∧ w' = w := by
  by_cases c : x < y
  · rw [if_pos c]
    go_enter Tryz.func200, Tryz.ntmps200
    go_wp2
    go_ret
    exact ⟨rfl, rfl⟩
  · rw [if_neg c]
    go_enter Tryz.func200, Tryz.ntmps200
    go_wp2
    go_ret
    exact ⟨rfl, rfl⟩
theorem l1Add_all (x y : Int) (hx : 0 ≤ x ∧ x ≤ 1000000000000000) (hy : 0 ≤ y ∧ y ≤ 1000000000000000) (w : World) : Calls Tryz.prog 175 #[.int .i64 x, .int .i64 y] w fun r w' => r = .returned (.int .i64 (addT x y)) ∧ w' = w := by
  have HM : Hid (∀ w, Calls Tryz.prog 200 #[.int .i64 (x + y), .int .i64 1000000000000000] w fun r w' => r = .returned (.int .i64 (addT x y)) ∧ w' = w) := fun w => by
    have := l1Min_all (x + y) 1000000000000000 w
    have e : (if x + y < 1000000000000000 then x + y else 1000000000000000) = addT x y := by unfold addT; split <;> split <;> omega
    rw [e] at this
    exact this
  obtain ⟨x0, x1⟩ := hx
  obtain ⟨y0, y1⟩ := hy
  generalize addT x y = z at *
  go_enter Tryz.func175, Tryz.ntmps175
  go_wp2_with fail
  refine (HM.out _).mono ?_
  rintro r w1 ⟨rfl, rfl⟩
  go_wp2_with fail
  go_ret
  exact ⟨rfl, rfl⟩
theorem plus_all (x y : Int) (hx : 0 ≤ x ∧ x ≤ 1000000000000000) (hy : 0 ≤ y ∧ y ≤ 1000000000000000) (w : World) : Calls Tryz.prog 176 #[.int .i64 x, .int .i64 y] w fun r w' => r = .returned (.int .i64 (addT x y)) ∧ w' = w := by
  obtain ⟨x0, x1⟩ := hx
  obtain ⟨y0, y1⟩ := hy
  by_cases c : 1000000000000000 - y < x
  · have e : addT x y = 1000000000000000 := by rw [addT, if_pos (by omega)]
    rw [e]
    go_enter Tryz.func176, Tryz.ntmps176
    go_wp2
    go_ret
    exact ⟨rfl, rfl⟩
  · have e : addT x y = x + y := by rw [addT, if_neg (by omega)]
    rw [e]
    go_enter Tryz.func176, Tryz.ntmps176
    go_wp2
    go_ret
    exact ⟨rfl, rfl⟩
theorem implAdd_all (x y : Int) (hx : 0 ≤ x ∧ x ≤ 1000000000000000) (hy : 0 ≤ y ∧ y ≤ 1000000000000000) (w : World) : Calls Tryz.prog 132 #[.int .i64 x, .int .i64 y] w fun r w' => r = .returned (.agg #[.int .i64 0, .int .i64 (addT x y)]) ∧ Below w.heap.size w w' := by
  by_cases c : x + y < 1000000000000000
  · have := implAdd_under x y hx.1 hx.2 hy.1 hy.2 c w
    rwa [show addT x y = x + y by rw [addT, if_neg (by omega)]]
  · have := implAdd_over x y hx.1 hx.2 hy.1 hy.2 (by omega) w
    rwa [show addT x y = 1000000000000000 by unfold addT; split <;> omega]
set_option maxHeartbeats 4000000 in
theorem specMeta_any (t g l s e : Int) (b1 b2 : Bool) (w : World) :
    Calls Tryz.prog 104 #[.agg #[.int .i64 t, .int .i64 g, .int .i64 l, .int .i64 s, .int .i64 e, .bool b1, .bool b2]] w fun r w' => r = .returned (.int .i64 (metaC t g l s e)) ∧ Below w.heap.size w w' := by
  have HT : Hid (∀ x w, Calls Tryz.prog 127 #[.int .i64 x] w fun r w' => r = .returned (.bool (timeB x)) ∧ w' = w) := l1Time_all
  have HB : Hid (Below w.heap.size w (w.alloc (.cells #[.int .i64 t, .int .i64 g, .int .i64 l, .int .i64 s, .int .i64 e, .bool b1, .bool b2] 54))) := (Below.refl _ _).alloc (Nat.le_refl _) _
  cases ht : timeB t
  · rw [metaC_bad (by simp [metaB, ht])]
    go_enter Tryz.func104, Tryz.ntmps104
    go_wp2_with fail
    refine (HT.out t _).mono ?_
    rintro r w1 ⟨rfl, rfl⟩
    rw [ht]
    go_wp2_with fail
    go_ret
    exact ⟨rfl, HB.out⟩
  cases hg : timeB g
  · rw [metaC_bad (by simp [metaB, hg])]
    go_enter Tryz.func104, Tryz.ntmps104
    go_wp2_with fail
    refine (HT.out t _).mono ?_
    rintro r w1 ⟨rfl, rfl⟩
    rw [ht]
    go_wp2_with fail
    refine (HT.out g _).mono ?_
    rintro r w1 ⟨rfl, rfl⟩
    rw [hg]
    go_wp2_with fail
    go_ret
    exact ⟨rfl, HB.out⟩
  cases hl : timeB l
  · rw [metaC_bad (by simp [metaB, hl])]
    go_enter Tryz.func104, Tryz.ntmps104
    go_wp2_with fail
    refine (HT.out t _).mono ?_
    rintro r w1 ⟨rfl, rfl⟩
    rw [ht]
    go_wp2_with fail
    refine (HT.out g _).mono ?_
    rintro r w1 ⟨rfl, rfl⟩
    rw [hg]
    go_wp2_with fail
    refine (HT.out l _).mono ?_
    rintro r w1 ⟨rfl, rfl⟩
    rw [hl]
    go_wp2_with fail
    go_ret
    exact ⟨rfl, HB.out⟩
  cases hs : timeB s
  · rw [metaC_bad (by simp [metaB, hs])]
    go_enter Tryz.func104, Tryz.ntmps104
    go_wp2_with fail
    refine (HT.out t _).mono ?_
    rintro r w1 ⟨rfl, rfl⟩
    rw [ht]
    go_wp2_with fail
    refine (HT.out g _).mono ?_
    rintro r w1 ⟨rfl, rfl⟩
    rw [hg]
    go_wp2_with fail
    refine (HT.out l _).mono ?_
    rintro r w1 ⟨rfl, rfl⟩
    rw [hl]
    go_wp2_with fail
    refine (HT.out s _).mono ?_
    rintro r w1 ⟨rfl, rfl⟩
    rw [hs]
    go_wp2_with fail
    go_ret
    exact ⟨rfl, HB.out⟩
  cases he : timeB e
  · rw [metaC_bad (by simp [metaB, he])]
    go_enter Tryz.func104, Tryz.ntmps104
    go_wp2_with fail
    refine (HT.out t _).mono ?_
    rintro r w1 ⟨rfl, rfl⟩
    rw [ht]
    go_wp2_with fail
    refine (HT.out g _).mono ?_
    rintro r w1 ⟨rfl, rfl⟩
    rw [hg]
    go_wp2_with fail
    refine (HT.out l _).mono ?_
    rintro r w1 ⟨rfl, rfl⟩
    rw [hl]
    go_wp2_with fail
    refine (HT.out s _).mono ?_
    rintro r w1 ⟨rfl, rfl⟩
    rw [hs]
    go_wp2_with fail
    refine (HT.out e _).mono ?_
    rintro r w1 ⟨rfl, rfl⟩
    rw [he]
    go_wp2_with fail
    go_ret
    exact ⟨rfl, HB.out⟩
  rw [metaC_ok (by simp [metaB, ht, hg, hl, hs, he])]
  go_enter Tryz.func104, Tryz.ntmps104
  go_wp2_with fail
  refine (HT.out t _).mono ?_
  rintro r w1 ⟨rfl, rfl⟩
  rw [ht]
  go_wp2_with fail
  refine (HT.out g _).mono ?_
  rintro r w1 ⟨rfl, rfl⟩
  rw [hg]
  go_wp2_with fail
  refine (HT.out l _).mono ?_
  rintro r w1 ⟨rfl, rfl⟩
  rw [hl]
  go_wp2_with fail
  refine (HT.out s _).mono ?_
  rintro r w1 ⟨rfl, rfl⟩
  rw [hs]
  go_wp2_with fail
  refine (HT.out e _).mono ?_
  rintro r w1 ⟨rfl, rfl⟩
  rw [he]
  go_wp2_with fail
  go_ret
  exact ⟨rfl, HB.out⟩
theorem meta_ix0 (t g l s e : Int) (w : World) : (Instr.index 188 (.agg #[.int .i64 t, .int .i64 g, .int .i64 l, .int .i64 s, .int .i64 e]) (.int .i64 0)).run Tryz.prog w = .ok (.int .i64 t) w := by kernel_rfl
theorem meta_ix1 (t g l s e : Int) (w : World) : (Instr.index 188 (.agg #[.int .i64 t, .int .i64 g, .int .i64 l, .int .i64 s, .int .i64 e]) (.int .i64 1)).run Tryz.prog w = .ok (.int .i64 g) w := by kernel_rfl
theorem meta_ix2 (t g l s e : Int) (w : World) : (Instr.index 188 (.agg #[.int .i64 t, .int .i64 g, .int .i64 l, .int .i64 s, .int .i64 e]) (.int .i64 2)).run Tryz.prog w = .ok (.int .i64 l) w := by kernel_rfl
theorem meta_ix3 (t g l s e : Int) (w : World) : (Instr.index 188 (.agg #[.int .i64 t, .int .i64 g, .int .i64 l, .int .i64 s, .int .i64 e]) (.int .i64 3)).run Tryz.prog w = .ok (.int .i64 s) w := by kernel_rfl
theorem meta_ix4 (t g l s e : Int) (w : World) : (Instr.index 188 (.agg #[.int .i64 t, .int .i64 g, .int .i64 l, .int .i64 s, .int .i64 e]) (.int .i64 4)).run Tryz.prog w = .ok (.int .i64 e) w := by kernel_rfl
set_option maxHeartbeats 8000000 in
theorem implMeta_any (t g l s e : Int) (b1 b2 : Bool) (w : World) :
    Calls Tryz.prog 113 #[.agg #[.int .i64 t, .int .i64 g, .int .i64 l, .int .i64 s, .int .i64 e, .bool b1, .bool b2]] w fun r w' => r = .returned (.int .i64 (metaC t g l s e)) ∧ Below w.heap.size w w' := by
  have HT : Hid (∀ x w, Calls Tryz.prog 131 #[.int .i64 x] w fun r w' => r = .returned (.bool (timeB x)) ∧ w' = w) := isTime_all
  have HB : Hid (Below w.heap.size w (w.alloc (.cells #[.int .i64 t, .int .i64 g, .int .i64 l, .int .i64 s, .int .i64 e, .bool b1, .bool b2] 54))) := (Below.refl _ _).alloc (Nat.le_refl _) _
  obtain ⟨v, hv⟩ : ∃ X, Hid (X = w.alloc (.cells #[.int .i64 t, .int .i64 g, .int .i64 l, .int .i64 s, .int .i64 e, .bool b1, .bool b2] 54)) := ⟨_, rfl⟩
  go_enter Tryz.func113, Tryz.ntmps113
  go_wp2_with fail
  rw [← hv.out]
  rw [← hv.out] at HB
  clear hv
  go_loopw [16] (fun i wr => ∃ k : Nat, k ≤ 5 ∧ i = .int .i64 k ∧ (∀ j, j < k → timeB ([t, g, l, s, e].getD j 0) = true) ∧ wr = v) (fun i _ => 5 - (intOf i).toNat)
  case atStart => exact ⟨0, Nat.zero_le _, rfl, fun j hj => absurd hj (by omega), rfl⟩
  case round =>
    obtain ⟨k, hk, rfl, hw, rfl⟩ := hrel
    have HW : Hid (∀ j, j < k → timeB ([t, g, l, s, e].getD j 0) = true) := hw
    clear hw
    by_cases k0 : k = 0
    · subst k0
      have hix := meta_ix0 t g l s e
      cases ht : timeB t
      · have HE : Hid (3 = metaC t g l s e) := (metaC_bad (by simp [metaB, ht])).symm
        go_wp2_with fail
        refine (HT.out t _).mono ?_
        rintro r w1 ⟨rfl, rfl⟩
        rw [ht]
        go_wp2_with fail
        go_ret
        exact ⟨ret_int HE.out, HB.out⟩
      · have HV : Hid (timeB t = true) := ht
        go_wp2_with fail
        refine (HT.out t _).mono ?_
        rintro r w1 ⟨rfl, rfl⟩
        rw [ht]
        clear ht
        go_wp2_with fail
        go_roundw
        case rel =>
          refine ⟨1, by omega, by go_num, fun j hj => ?_, by trivial⟩
          by_cases q : j = 0
          · subst q; exact HV.out
          · exact HW.out j (by omega)
        case measure => simp [intOf]
    by_cases k1 : k = 1
    · subst k1
      have hix := meta_ix1 t g l s e
      cases hg : timeB g
      · have HE : Hid (3 = metaC t g l s e) := (metaC_bad (by simp [metaB, hg])).symm
        go_wp2_with fail
        refine (HT.out g _).mono ?_
        rintro r w1 ⟨rfl, rfl⟩
        rw [hg]
        go_wp2_with fail
        go_ret
        exact ⟨ret_int HE.out, HB.out⟩
      · have HV : Hid (timeB g = true) := hg
        go_wp2_with fail
        refine (HT.out g _).mono ?_
        rintro r w1 ⟨rfl, rfl⟩
        rw [hg]
        clear hg
        go_wp2_with fail
        go_roundw
        case rel =>
          refine ⟨2, by omega, by go_num, fun j hj => ?_, by trivial⟩
          by_cases q : j = 1
          · subst q; exact HV.out
          · exact HW.out j (by omega)
        case measure => simp [intOf]
    by_cases k2 : k = 2
    · subst k2
      have hix := meta_ix2 t g l s e
      cases hl : timeB l
      · have HE : Hid (3 = metaC t g l s e) := (metaC_bad (by simp [metaB, hl])).symm
        go_wp2_with fail
        refine (HT.out l _).mono ?_
        rintro r w1 ⟨rfl, rfl⟩
        rw [hl]
        go_wp2_with fail
        go_ret
        exact ⟨ret_int HE.out, HB.out⟩
      · have HV : Hid (timeB l = true) := hl
        go_wp2_with fail
        refine (HT.out l _).mono ?_
        rintro r w1 ⟨rfl, rfl⟩
        rw [hl]
        clear hl
        go_wp2_with fail
        go_roundw
        case rel =>
          refine ⟨3, by omega, by go_num, fun j hj => ?_, by trivial⟩
          by_cases q : j = 2
          · subst q; exact HV.out
          · exact HW.out j (by omega)
        case measure => simp [intOf]
    by_cases k3 : k = 3
    · subst k3
      have hix := meta_ix3 t g l s e
      cases hs : timeB s
      · have HE : Hid (3 = metaC t g l s e) := (metaC_bad (by simp [metaB, hs])).symm
        go_wp2_with fail
        refine (HT.out s _).mono ?_
        rintro r w1 ⟨rfl, rfl⟩
        rw [hs]
        go_wp2_with fail
        go_ret
        exact ⟨ret_int HE.out, HB.out⟩
      · have HV : Hid (timeB s = true) := hs
        go_wp2_with fail
        refine (HT.out s _).mono ?_
        rintro r w1 ⟨rfl, rfl⟩
        rw [hs]
        clear hs
        go_wp2_with fail
        go_roundw
        case rel =>
          refine ⟨4, by omega, by go_num, fun j hj => ?_, by trivial⟩
          by_cases q : j = 3
          · subst q; exact HV.out
          · exact HW.out j (by omega)
        case measure => simp [intOf]
    by_cases k4 : k = 4
    · subst k4
      have hix := meta_ix4 t g l s e
      cases he : timeB e
      · have HE : Hid (3 = metaC t g l s e) := (metaC_bad (by simp [metaB, he])).symm
        go_wp2_with fail
        refine (HT.out e _).mono ?_
        rintro r w1 ⟨rfl, rfl⟩
        rw [he]
        go_wp2_with fail
        go_ret
        exact ⟨ret_int HE.out, HB.out⟩
      · have HV : Hid (timeB e = true) := he
        go_wp2_with fail
        refine (HT.out e _).mono ?_
        rintro r w1 ⟨rfl, rfl⟩
        rw [he]
        clear he
        go_wp2_with fail
        go_roundw
        case rel =>
          refine ⟨5, by omega, by go_num, fun j hj => ?_, by trivial⟩
          by_cases q : j = 4
          · subst q; exact HV.out
          · exact HW.out j (by omega)
        case measure => simp [intOf]
    obtain rfl : k = 5 := by omega
    have HE : Hid (0 = metaC t g l s e) := (metaC_ok (by have h0 := HW.out 0 (by omega); have h1 := HW.out 1 (by omega); have h2 := HW.out 2 (by omega); have h3 := HW.out 3 (by omega); have h4 := HW.out 4 (by omega); simp at h0 h1 h2 h3 h4; simp [metaB, h0, h1, h2, h3, h4])).symm
    go_wp2_with fail
    go_ret
    exact ⟨ret_int HE.out, HB.out⟩
end Go.Proofs.YtopkidfbkhjaeaaGreatDoor
/-
  What is kept with an answer, handed over by the laws.
-/
namespace Go.Proofs.YtopkidfbkhjaeaaGreatDoor
open Go.ChangeShapes Go.WideShapes Go.ChangeAt Go.RowKit Go.Sort
set_option maxHeartbeats 2000000 in
theorem toMeta_any (t g l s e : Int) (b1 b2 : Bool) (w : World) :
    Calls Tryz.prog 59 #[.agg #[.int .i64 t, .int .i64 g, .int .i64 l, .int .i64 s, .int .i64 e, .bool b1, .bool b2]] w fun r w' => r = .returned (.agg #[.int .i64 t, .int .i64 g, .int .i64 l, .int .i64 s, .int .i64 e, .bool b1, .bool b2]) ∧ Below w.heap.size w w' := by
  go_enter Tryz.func59, Tryz.ntmps59
  go_wp2
  exact bodyPost_ret (v := .agg #[.int .i64 t, .int .i64 g, .int .i64 l, .int .i64 s, .int .i64 e, .bool b1, .bool b2]) (by simp [results, Tryz.results59, go_sem]) rfl ⟨rfl, (((Below.refl w.heap.size w).alloc (Nat.le_refl _) _).alloc (by simp) _).alloc (by simp; omega) _⟩
end Go.Proofs.YtopkidfbkhjaeaaGreatDoor
/-
  What is kept with an answer, compared with itself.
-/
namespace Go.Proofs.YtopkidfbkhjaeaaGreatDoor
open Go.ChangeShapes Go.WideShapes Go.ChangeAt Go.RowKit Go.Sort
set_option maxHeartbeats 2000000 in
theorem eqMeta_same (t g l s e : Int) (b1 b2 : Bool) (w : World) : Calls Tryz.prog 67 #[.agg #[.int .i64 t, .int .i64 g, .int .i64 l, .int .i64 s, .int .i64 e, .bool b1, .bool b2], .agg #[.int .i64 t, .int .i64 g, .int .i64 l, .int .i64 s, .int .i64 e, .bool b1, .bool b2]] w fun r w' => r = .returned (.bool true) ∧ Below w.heap.size w w' := by
  have e1 : (b1 != b1) = false := by simp
  have e2 : (b2 != b2) = false := by simp
  go_enter Tryz.func67, Tryz.ntmps67
  go_wp2
  go_ret
  exact ⟨rfl, ((Below.refl w.heap.size w).alloc (Nat.le_refl _) _).alloc (by simp) _⟩
end Go.Proofs.YtopkidfbkhjaeaaGreatDoor
/-
  The laws' comparing of two lists of items that are alike.
-/
namespace Go.Proofs.YtopkidfbkhjaeaaGreatDoor
open Go.ChangeShapes Go.WideShapes Go.ChangeAt Go.RowKit Go.Sort
set_option maxRecDepth 100000 in
set_option maxHeartbeats 2000000 in
theorem eqHeaderS_same (w : World) (b1 o1 b2 o2 c1 c2 : Nat) (l : List Hdr) (hl : l.length ≤ 1048576) (h1 : HeadsAt w b1 o1 l) (h2 : HeadsAt w b2 o2 l) :
    Calls Tryz.prog 50 #[.slice (some ⟨b1, o1, none⟩) l.length c1, .slice (some ⟨b2, o2, none⟩) l.length c2] w fun e w' => e = .returned (.bool true) ∧ Below w.heap.size w w' := by
  have H1 : Hid (HeadsAt w b1 o1 l) := h1
  have H2 : Hid (HeadsAt w b2 o2 l) := h2
  clear h1 h2
  generalize hn : l.length = n at *
  have HN : Hid (l.length = n) := hn
  clear hn
  go_enter Tryz.func50, Tryz.ntmps50
  go_wp2_with fail
  go_loopw [5] (fun i wr => ∃ k : Nat, k ≤ n ∧ i = .int .i64 k ∧ Below w.heap.size w wr) (fun i _ => n - (intOf i).toNat)
  case atStart => exact ⟨0, Nat.zero_le _, rfl, Below.refl _ _⟩
  case round =>
    obtain ⟨k, hk, rfl, hb⟩ := hrel
    by_cases hlt : k < n
    · obtain ⟨r, hr⟩ : ∃ r, l[k]? = some r := ⟨l[k]'(by have := HN.out; omega), List.getElem?_eq_getElem _⟩
      obtain ⟨p1, p3⟩ := (H1.out.keep hb) k r hr
      obtain ⟨q1, q3⟩ := (H2.out.keep hb) k r hr
      have x1 := cell_regrown p1
      have x3 := cell_regrown p3
      have y1 := cell_regrown q1
      have y3 := cell_regrown q3
      have cE : ∀ d os, Calls Tryz.prog 97 #[.agg #[.string r.name, .string r.value], .agg #[.string r.name, .string r.value]] (grow (redrawn wr d) os) fun e w'' => e = .returned (.bool true) ∧ ∃ p : Regrown, w'' = grow (redrawn wr p.d) p.os := fun d os => Calls.regrown_of (eqHeader_same r _)
      have g0 : (0 : Int) ≤ k := by omega
      have g : (k : Int) < n := by omega
      clear hr p1 p3 q1 q3
      generalize r.name = rn at *
      generalize r.value = rv at *
      go_wp2_with fail
      refine wp_region_quiet_below (by kernel_rfl) (by kernel_rfl) ?_
      repeat (go_big_quiet_step ((go_at_call 97; exact cE _ _)))
      refine wpQuiet_nil ?_
      intro w2 hw2
      have hbb : Below w.heap.size w w2 := by
        obtain ⟨⟨d, os⟩, rfl⟩ := hw2
        exact hb.trans ((below_regrown wr d os).mono hb.size)
      clear x1 x3 y1 y3 cE hw2 hb
      go_wp2_with fail
      go_roundw
      case rel => exact ⟨k + 1, by omega, by go_num, hbb⟩
      case measure => simp [intOf]; omega
    · go_wp2_with fail
      go_ret
      exact ⟨rfl, hb⟩
end Go.Proofs.YtopkidfbkhjaeaaGreatDoor
/-
  Entries, handed over by the laws: how much room they take, copies, comparisons.
-/
namespace Go.Proofs.YtopkidfbkhjaeaaGreatDoor
open Go.ChangeShapes Go.WideShapes Go.ChangeAt Go.RowKit Go.Sort
/-- How much room is left behind an entry; -1: none. -/
def szE (left : Int) (key : ByteArray) (hs : List Hdr) (bs : List UInt8) (ts : List ByteArray) : Int :=
  if left - (key.size : Int) < 0 then -1 else
  if szHL (left - (key.size : Int)) hs < 0 then -1 else
  if szHL (left - (key.size : Int)) hs - (bs.length : Int) < 0 then -1 else
  if szTL (szHL (left - (key.size : Int)) hs - (bs.length : Int)) ts < 0 then -1 else szTL (szHL (left - (key.size : Int)) hs - (bs.length : Int)) ts
set_option maxHeartbeats 4000000 in
theorem szEntry_any (w : World) (key : ByteArray) (st : Int) (ha : Option Addr) (hc : Nat) (ba : Option Addr) (bc : Nat) (t g l s e : Int) (b1 b2 : Bool) (ta : Option Addr) (tc : Nat) (pins : Int) (hs : List Hdr) (bs : List UInt8) (ts : List ByteArray) (left : Int) (h0 : 0 ≤ left) (h1 : left ≤ 1048576) (hk : key.size ≤ maxLen) (hhl : hs.length ≤ maxLen) (hsm : SmallHdrs hs) (hbl : bs.length ≤ maxLen) (htl : ts.length ≤ maxLen) (hts : ∀ x ∈ ts, x.size ≤ maxLen) (hH : HdsIn w ha hs) (hT : TIn w ta ts) :
    Calls Tryz.prog 17 #[.agg #[.string key, .int .i64 st, .slice ha hs.length hc, .slice ba bs.length bc, .int .i64 t, .int .i64 g, .int .i64 l, .int .i64 s, .int .i64 e, .bool b1, .bool b2, .slice ta ts.length tc, .int .i64 pins], .int .i64 left] w fun r w' => r = .returned (.int .i64 (szE left key hs bs ts)) ∧ Below w.heap.size w w' := by
  have HZH : Hid (∀ W left', Below w.heap.size w W → 0 ≤ left' → left' ≤ 1048576 → Calls Tryz.prog 40 #[.slice ha hs.length hc, .int .i64 left'] W fun r w' => r = .returned (.int .i64 (szHL left' hs)) ∧ Below W.heap.size W w') := fun W left' hb a b => szHeaderS_any W ha hc hs hhl (hH.keep hb) hsm left' a b
  have HZB : Hid (∀ W left', 0 ≤ left' → left' ≤ 1048576 → Calls Tryz.prog 41 #[.slice ba bs.length bc, .int .i64 left'] W fun r w' => r = .returned (.int .i64 (if left' - (bs.length : Int) < 0 then -1 else left' - (bs.length : Int))) ∧ w' = W) := fun W left' a b => szByteS_any ba bs.length bc left' W a b hbl
  have HZT : Hid (∀ W left', Below w.heap.size w W → 0 ≤ left' → left' ≤ 1048576 → Calls Tryz.prog 55 #[.slice ta ts.length tc, .int .i64 left'] W fun r w' => r = .returned (.int .i64 (szTL left' ts)) ∧ Below W.heap.size W w') := fun W left' hb a b => szStringS_any W ta tc ts htl (hT.keep hb) hts left' a b
  have HLE : Hid (¬ szHL (left - (key.size : Int)) hs < 0 → szHL (left - (key.size : Int)) hs ≤ left - (key.size : Int)) := szHL_le
  have HB0 : Hid (Below w.heap.size w (w.alloc (.cells #[.string key, .int .i64 st, .slice ha hs.length hc, .slice ba bs.length bc, .int .i64 t, .int .i64 g, .int .i64 l, .int .i64 s, .int .i64 e, .bool b1, .bool b2, .slice ta ts.length tc, .int .i64 pins] 45))) := (Below.refl _ _).alloc (Nat.le_refl _) _
  have HC0 : Hid (E13 (w.alloc (.cells #[.string key, .int .i64 st, .slice ha hs.length hc, .slice ba bs.length bc, .int .i64 t, .int .i64 g, .int .i64 l, .int .i64 s, .int .i64 e, .bool b1, .bool b2, .slice ta ts.length tc, .int .i64 pins] 45)) w.heap.size (.string key) (.int .i64 st) (.slice ha hs.length hc) (.slice ba bs.length bc) (.int .i64 t) (.int .i64 g) (.int .i64 l) (.int .i64 s) (.int .i64 e) (.bool b1) (.bool b2) (.slice ta ts.length tc) (.int .i64 pins)) := E13.new w _ _ _ _ _ _ _ _ _ _ _ _ _ _
  unfold maxLen at hk
  obtain ⟨Z, hZ⟩ : ∃ Z, szE left key hs bs ts = Z := ⟨_, rfl⟩
  rw [hZ]
  unfold szE at hZ
  have HSZ : Hid (_ = Z) := hZ
  clear hZ
  clear hH hT hsm hts hhl hbl htl
  generalize hz1 : szHL (left - (key.size : Int)) hs = z1 at *
  generalize hs.length = hl at *
  generalize bs.length = bn at *
  generalize ts.length = tn at *
  by_cases c1 : left - (key.size : Int) < 0
  · have HR := HSZ.out
    rw [if_pos c1] at HR
    rw [← HR]
    clear HSZ HR HLE
    go_enter Tryz.func17, Tryz.ntmps17
    go_wp2_with fail
    go_ret
    exact ⟨rfl, HB0.out⟩
  rw [if_neg c1] at HSZ
  by_cases c2 : z1 < 0
  · have HR := HSZ.out
    rw [if_pos c2] at HR
    rw [← HR]
    clear HSZ HR HLE
    go_enter Tryz.func17, Tryz.ntmps17
    go_wp2_with fail
    refine (HZH.out _ _ HB0.out (by omega) (by omega)).mono ?_
    rintro r w1 ⟨rfl, hb1⟩
    rw [hz1]
    have HB1 : Hid (Below w.heap.size w w1) := HB0.out.trans (hb1.mono HB0.out.size)
    clear hb1
    go_wp2_with fail
    go_ret
    exact ⟨rfl, HB1.out⟩
  rw [if_neg c2] at HSZ
  have hle := HLE.out c2
  have HZ1 : Hid (szHL (left - (key.size : Int)) hs = z1) := hz1
  clear HLE hz1
  by_cases c3 : z1 - (bn : Int) < 0
  · have HR := HSZ.out
    rw [if_pos c3] at HR
    rw [← HR]
    clear HSZ HR
    go_enter Tryz.func17, Tryz.ntmps17
    go_wp2_with fail
    refine (HZH.out _ _ HB0.out (by omega) (by omega)).mono ?_
    rintro r w1 ⟨rfl, hb1⟩
    rw [HZ1.out]
    have HB1 : Hid (Below w.heap.size w w1) := HB0.out.trans (hb1.mono HB0.out.size)
    have HC1 := HC0.out.keep hb1
    have q3 := HC1.c3
    clear hb1 HC1
    go_wp2_with fail
    refine (HZB.out _ _ (by omega) (by omega)).mono ?_
    rintro r w2 ⟨rfl, rfl⟩
    rw [if_pos c3]
    go_wp2_with fail
    go_ret
    exact ⟨rfl, HB1.out⟩
  rw [if_neg c3] at HSZ
  obtain ⟨z2, hz2⟩ : ∃ x, Hid (szTL (z1 - (bn : Int)) ts = x) := ⟨_, rfl⟩
  rw [hz2.out] at HSZ
  have HR : Hid ((if z2 < 0 then -1 else z2) = Z) := HSZ.out
  clear HSZ
  rw [← HR.out]
  clear HR
  go_enter Tryz.func17, Tryz.ntmps17
  go_wp2_with fail
  refine (HZH.out _ _ HB0.out (by omega) (by omega)).mono ?_
  rintro r w1 ⟨rfl, hb1⟩
  rw [HZ1.out]
  have HB1 : Hid (Below w.heap.size w w1) := HB0.out.trans (hb1.mono HB0.out.size)
  have HC1 := HC0.out.keep hb1
  have q3 := HC1.c3
  have q11 := HC1.c11
  clear hb1 HC1
  go_wp2_with fail
  refine (HZB.out _ _ (by omega) (by omega)).mono ?_
  rintro r w2 ⟨rfl, rfl⟩
  rw [if_neg (show ¬ z1 - (bn : Int) < 0 from by omega)]
  go_wp2_with fail
  refine (HZT.out _ _ HB1.out (by omega) (by omega)).mono ?_
  rintro r w3 ⟨rfl, hb3⟩
  rw [hz2.out]
  have HB3 : Hid (Below w.heap.size w w3) := HB1.out.trans (hb3.mono HB1.out.size)
  clear hb3
  by_cases c4 : z2 < 0
  · go_wp2_with fail
    go_ret
    exact ⟨rfl, HB3.out⟩
  · go_wp2_with fail
    go_ret
    exact ⟨rfl, HB3.out⟩
set_option maxHeartbeats 1000000 in
theorem eqHeaderS_none (w : World) (a b : Option Addr) (c d : Nat) :
    Calls Tryz.prog 50 #[.slice a 0 c, .slice b 0 d] w fun e w' => e = .returned (.bool true) ∧ Below w.heap.size w w' := by
  go_enter Tryz.func50, Tryz.ntmps50
  go_wp2_with fail
  go_loop [5] (fun i => i = .int .i64 0) (fun _ => 0)
  case atStart => exact rfl
  case round =>
    cases hrel
    go_wp2_with fail
    go_ret
    exact ⟨rfl, Below.refl _ _⟩
theorem eqHeaderS_in (w : World) (a1 a2 : Option Addr) (c1 c2 : Nat) (l : List Hdr) (hl : l.length ≤ 1048576) (h1 : HdsIn w a1 l) (h2 : HdsIn w a2 l) :
    Calls Tryz.prog 50 #[.slice a1 l.length c1, .slice a2 l.length c2] w fun e w' => e = .returned (.bool true) ∧ Below w.heap.size w w' := by
  rcases h1 with rfl | ⟨b, o, rfl, h1⟩
  · exact eqHeaderS_none w _ _ _ _
  · rcases h2 with rfl | ⟨b2, o2, rfl, h2⟩
    · exact eqHeaderS_none w _ _ _ _
    · exact eqHeaderS_same w b o b2 o2 c1 c2 l hl h1 h2
set_option maxHeartbeats 8000000 in
theorem eqEntry_same (w : World) (key : ByteArray) (st : Int) (h1 h2 : Option Addr) (k1 k2 : Nat) (ba1 ba2 : Option Addr) (bc1 bc2 : Nat) (t g l s e : Int) (b1 b2 : Bool) (ta1 ta2 : Option Addr) (tc1 tc2 : Nat) (pins : Int) (hs : List Hdr) (bs : List UInt8) (ts : List ByteArray)
    (hhl : hs.length ≤ 1048576) (hbl : bs.length ≤ 1048576) (htl : ts.length ≤ 1048576) (hH1 : HdsIn w h1 hs) (hH2 : HdsIn w h2 hs) (hB1 : BIn w ba1 bs) (hB2 : BIn w ba2 bs) (hT1 : TIn w ta1 ts) (hT2 : TIn w ta2 ts) :
    Calls Tryz.prog 24 #[.agg #[.string key, .int .i64 st, .slice h1 hs.length k1, .slice ba1 bs.length bc1, .int .i64 t, .int .i64 g, .int .i64 l, .int .i64 s, .int .i64 e, .bool b1, .bool b2, .slice ta1 ts.length tc1, .int .i64 pins], .agg #[.string key, .int .i64 st, .slice h2 hs.length k2, .slice ba2 bs.length bc2, .int .i64 t, .int .i64 g, .int .i64 l, .int .i64 s, .int .i64 e, .bool b1, .bool b2, .slice ta2 ts.length tc2, .int .i64 pins]] w fun r w' => r = .returned (.bool true) ∧ Below w.heap.size w w' := by
  have HEH : Hid (∀ W, Below w.heap.size w W → Calls Tryz.prog 50 #[.slice h1 hs.length k1, .slice h2 hs.length k2] W fun r w' => r = .returned (.bool true) ∧ Below W.heap.size W w') := fun W hb => eqHeaderS_in W h1 h2 k1 k2 hs hhl (hH1.keep hb) (hH2.keep hb)
  have HEB : Hid (∀ W, Below w.heap.size w W → Calls Tryz.prog 51 #[.slice ba1 bs.length bc1, .slice ba2 bs.length bc2] W fun r w' => r = .returned (.bool true) ∧ Below W.heap.size W w') := fun W hb => eqByteS_same W ba1 ba2 bc1 bc2 bs hbl (hB1.keep hb) (hB2.keep hb)
  have HEM : Hid (∀ W, Calls Tryz.prog 67 #[.agg #[.int .i64 t, .int .i64 g, .int .i64 l, .int .i64 s, .int .i64 e, .bool b1, .bool b2], .agg #[.int .i64 t, .int .i64 g, .int .i64 l, .int .i64 s, .int .i64 e, .bool b1, .bool b2]] W fun r w' => r = .returned (.bool true) ∧ Below W.heap.size W w') := eqMeta_same t g l s e b1 b2
  have HET : Hid (∀ W, Below w.heap.size w W → Calls Tryz.prog 68 #[.slice ta1 ts.length tc1, .slice ta2 ts.length tc2] W fun r w' => r = .returned (.bool true) ∧ Below W.heap.size W w') := fun W hb => eqStringS_same W ta1 ta2 tc1 tc2 ts htl (hT1.keep hb) (hT2.keep hb)
  clear hH1 hH2 hB1 hB2 hT1 hT2
  generalize hs.length = hl at *
  generalize bs.length = bn at *
  generalize ts.length = tn at *
  obtain ⟨v, hv⟩ : ∃ X, Hid (X = (w.alloc (.cells #[.string key, .int .i64 st, .slice h1 hl k1, .slice ba1 bn bc1, .int .i64 t, .int .i64 g, .int .i64 l, .int .i64 s, .int .i64 e, .bool b1, .bool b2, .slice ta1 tn tc1, .int .i64 pins] 56)).alloc (.cells #[.string key, .int .i64 st, .slice h2 hl k2, .slice ba2 bn bc2, .int .i64 t, .int .i64 g, .int .i64 l, .int .i64 s, .int .i64 e, .bool b1, .bool b2, .slice ta2 tn tc2, .int .i64 pins] 56)) := ⟨_, rfl⟩
  have F0 : Hid (Below w.heap.size w v ∧ E13 v w.heap.size (.string key) (.int .i64 st) (.slice h1 hl k1) (.slice ba1 bn bc1) (.int .i64 t) (.int .i64 g) (.int .i64 l) (.int .i64 s) (.int .i64 e) (.bool b1) (.bool b2) (.slice ta1 tn tc1) (.int .i64 pins) ∧ E13 v (w.heap.size + 1) (.string key) (.int .i64 st) (.slice h2 hl k2) (.slice ba2 bn bc2) (.int .i64 t) (.int .i64 g) (.int .i64 l) (.int .i64 s) (.int .i64 e) (.bool b1) (.bool b2) (.slice ta2 tn tc2) (.int .i64 pins)) := by
    have a1 : Below w.heap.size w (w.alloc (.cells #[.string key, .int .i64 st, .slice h1 hl k1, .slice ba1 bn bc1, .int .i64 t, .int .i64 g, .int .i64 l, .int .i64 s, .int .i64 e, .bool b1, .bool b2, .slice ta1 tn tc1, .int .i64 pins] 56)) := (Below.refl _ _).alloc (Nat.le_refl _) _
    have a2 : Below (w.alloc (.cells #[.string key, .int .i64 st, .slice h1 hl k1, .slice ba1 bn bc1, .int .i64 t, .int .i64 g, .int .i64 l, .int .i64 s, .int .i64 e, .bool b1, .bool b2, .slice ta1 tn tc1, .int .i64 pins] 56)).heap.size (w.alloc (.cells #[.string key, .int .i64 st, .slice h1 hl k1, .slice ba1 bn bc1, .int .i64 t, .int .i64 g, .int .i64 l, .int .i64 s, .int .i64 e, .bool b1, .bool b2, .slice ta1 tn tc1, .int .i64 pins] 56)) ((w.alloc (.cells #[.string key, .int .i64 st, .slice h1 hl k1, .slice ba1 bn bc1, .int .i64 t, .int .i64 g, .int .i64 l, .int .i64 s, .int .i64 e, .bool b1, .bool b2, .slice ta1 tn tc1, .int .i64 pins] 56)).alloc (.cells #[.string key, .int .i64 st, .slice h2 hl k2, .slice ba2 bn bc2, .int .i64 t, .int .i64 g, .int .i64 l, .int .i64 s, .int .i64 e, .bool b1, .bool b2, .slice ta2 tn tc2, .int .i64 pins] 56)) := (Below.refl _ _).alloc (Nat.le_refl _) _
    have ez : (w.alloc (.cells #[.string key, .int .i64 st, .slice h1 hl k1, .slice ba1 bn bc1, .int .i64 t, .int .i64 g, .int .i64 l, .int .i64 s, .int .i64 e, .bool b1, .bool b2, .slice ta1 tn tc1, .int .i64 pins] 56)).heap.size = w.heap.size + 1 := by simp
    have e2 := E13.new (w.alloc (.cells #[.string key, .int .i64 st, .slice h1 hl k1, .slice ba1 bn bc1, .int .i64 t, .int .i64 g, .int .i64 l, .int .i64 s, .int .i64 e, .bool b1, .bool b2, .slice ta1 tn tc1, .int .i64 pins] 56)) (.string key) (.int .i64 st) (.slice h2 hl k2) (.slice ba2 bn bc2) (.int .i64 t) (.int .i64 g) (.int .i64 l) (.int .i64 s) (.int .i64 e) (.bool b1) (.bool b2) (.slice ta2 tn tc2) (.int .i64 pins) 56
    rw [ez] at e2
    rw [hv.out]
    exact ⟨a1.trans (a2.mono a1.size), (E13.new w (.string key) (.int .i64 st) (.slice h1 hl k1) (.slice ba1 bn bc1) (.int .i64 t) (.int .i64 g) (.int .i64 l) (.int .i64 s) (.int .i64 e) (.bool b1) (.bool b2) (.slice ta1 tn tc1) (.int .i64 pins) 56).keep a2, e2⟩
  have hbe : (key.toList == key.toList) = true := by simp
  have hbe2 : (key.toList != key.toList) = false := by simp
  go_enter Tryz.func24, Tryz.ntmps24
  go_upto_region 1 with fail
  rw [← hv.out]
  clear hv
  have a0 := F0.out.2.1.c0
  have d0 := F0.out.2.2.c0
  have a1 := F0.out.2.1.c1
  have d1 := F0.out.2.2.c1
  have a2 := F0.out.2.1.c2
  have d2 := F0.out.2.2.c2
  have a3 := F0.out.2.1.c3
  have d3 := F0.out.2.2.c3
  have a4 := F0.out.2.1.c4
  have d4 := F0.out.2.2.c4
  have a5 := F0.out.2.1.c5
  have d5 := F0.out.2.2.c5
  have a6 := F0.out.2.1.c6
  have d6 := F0.out.2.2.c6
  have a7 := F0.out.2.1.c7
  have d7 := F0.out.2.2.c7
  have a8 := F0.out.2.1.c8
  have d8 := F0.out.2.2.c8
  have a9 := F0.out.2.1.c9
  have d9 := F0.out.2.2.c9
  have a10 := F0.out.2.1.c10
  have d10 := F0.out.2.2.c10
  have a11 := F0.out.2.1.c11
  have d11 := F0.out.2.2.c11
  have a12 := F0.out.2.1.c12
  have d12 := F0.out.2.2.c12
  go_wp2_with fail
  refine (HEH.out _ F0.out.1).mono ?_
  rintro r w1 ⟨rfl, hb1⟩
  have F1 : Hid (Below w.heap.size w w1 ∧ E13 w1 w.heap.size (.string key) (.int .i64 st) (.slice h1 hl k1) (.slice ba1 bn bc1) (.int .i64 t) (.int .i64 g) (.int .i64 l) (.int .i64 s) (.int .i64 e) (.bool b1) (.bool b2) (.slice ta1 tn tc1) (.int .i64 pins) ∧ E13 w1 (w.heap.size + 1) (.string key) (.int .i64 st) (.slice h2 hl k2) (.slice ba2 bn bc2) (.int .i64 t) (.int .i64 g) (.int .i64 l) (.int .i64 s) (.int .i64 e) (.bool b1) (.bool b2) (.slice ta2 tn tc2) (.int .i64 pins)) := ⟨F0.out.1.trans (hb1.mono F0.out.1.size), F0.out.2.1.keep hb1, F0.out.2.2.keep hb1⟩
  clear hb1 F0 a0 a1 a2 a3 a4 a5 a6 a7 a8 a9 a10 a11 a12 d0 d1 d2 d3 d4 d5 d6 d7 d8 d9 d10 d11 d12
  have a0 := F1.out.2.1.c0
  have d0 := F1.out.2.2.c0
  have a1 := F1.out.2.1.c1
  have d1 := F1.out.2.2.c1
  have a2 := F1.out.2.1.c2
  have d2 := F1.out.2.2.c2
  have a3 := F1.out.2.1.c3
  have d3 := F1.out.2.2.c3
  have a4 := F1.out.2.1.c4
  have d4 := F1.out.2.2.c4
  have a5 := F1.out.2.1.c5
  have d5 := F1.out.2.2.c5
  have a6 := F1.out.2.1.c6
  have d6 := F1.out.2.2.c6
  have a7 := F1.out.2.1.c7
  have d7 := F1.out.2.2.c7
  have a8 := F1.out.2.1.c8
  have d8 := F1.out.2.2.c8
  have a9 := F1.out.2.1.c9
  have d9 := F1.out.2.2.c9
  have a10 := F1.out.2.1.c10
  have d10 := F1.out.2.2.c10
  have a11 := F1.out.2.1.c11
  have d11 := F1.out.2.2.c11
  have a12 := F1.out.2.1.c12
  have d12 := F1.out.2.2.c12
  go_wp2_with fail
  refine (HEB.out _ F1.out.1).mono ?_
  rintro r w2 ⟨rfl, hb2⟩
  have F2 : Hid (Below w.heap.size w w2 ∧ E13 w2 w.heap.size (.string key) (.int .i64 st) (.slice h1 hl k1) (.slice ba1 bn bc1) (.int .i64 t) (.int .i64 g) (.int .i64 l) (.int .i64 s) (.int .i64 e) (.bool b1) (.bool b2) (.slice ta1 tn tc1) (.int .i64 pins) ∧ E13 w2 (w.heap.size + 1) (.string key) (.int .i64 st) (.slice h2 hl k2) (.slice ba2 bn bc2) (.int .i64 t) (.int .i64 g) (.int .i64 l) (.int .i64 s) (.int .i64 e) (.bool b1) (.bool b2) (.slice ta2 tn tc2) (.int .i64 pins)) := ⟨F1.out.1.trans (hb2.mono F1.out.1.size), F1.out.2.1.keep hb2, F1.out.2.2.keep hb2⟩
  clear hb2 F1 a0 a1 a2 a3 a4 a5 a6 a7 a8 a9 a10 a11 a12 d0 d1 d2 d3 d4 d5 d6 d7 d8 d9 d10 d11 d12
  have a0 := F2.out.2.1.c0
  have d0 := F2.out.2.2.c0
  have a1 := F2.out.2.1.c1
  have d1 := F2.out.2.2.c1
  have a2 := F2.out.2.1.c2
  have d2 := F2.out.2.2.c2
  have a3 := F2.out.2.1.c3
  have d3 := F2.out.2.2.c3
  have a4 := F2.out.2.1.c4
  have d4 := F2.out.2.2.c4
  have a5 := F2.out.2.1.c5
  have d5 := F2.out.2.2.c5
  have a6 := F2.out.2.1.c6
  have d6 := F2.out.2.2.c6
  have a7 := F2.out.2.1.c7
  have d7 := F2.out.2.2.c7
  have a8 := F2.out.2.1.c8
  have d8 := F2.out.2.2.c8
  have a9 := F2.out.2.1.c9
  have d9 := F2.out.2.2.c9
  have a10 := F2.out.2.1.c10
  have d10 := F2.out.2.2.c10
  have a11 := F2.out.2.1.c11
  have d11 := F2.out.2.2.c11
  have a12 := F2.out.2.1.c12
  have d12 := F2.out.2.2.c12
  go_wp2_with fail
  refine (HEM.out _).mono ?_
  rintro r w3 ⟨rfl, hb3⟩
  have F3 : Hid (Below w.heap.size w w3 ∧ E13 w3 w.heap.size (.string key) (.int .i64 st) (.slice h1 hl k1) (.slice ba1 bn bc1) (.int .i64 t) (.int .i64 g) (.int .i64 l) (.int .i64 s) (.int .i64 e) (.bool b1) (.bool b2) (.slice ta1 tn tc1) (.int .i64 pins) ∧ E13 w3 (w.heap.size + 1) (.string key) (.int .i64 st) (.slice h2 hl k2) (.slice ba2 bn bc2) (.int .i64 t) (.int .i64 g) (.int .i64 l) (.int .i64 s) (.int .i64 e) (.bool b1) (.bool b2) (.slice ta2 tn tc2) (.int .i64 pins)) := ⟨F2.out.1.trans (hb3.mono F2.out.1.size), F2.out.2.1.keep hb3, F2.out.2.2.keep hb3⟩
  clear hb3 F2 a0 a1 a2 a3 a4 a5 a6 a7 a8 a9 a10 a11 a12 d0 d1 d2 d3 d4 d5 d6 d7 d8 d9 d10 d11 d12
  have a0 := F3.out.2.1.c0
  have d0 := F3.out.2.2.c0
  have a1 := F3.out.2.1.c1
  have d1 := F3.out.2.2.c1
  have a2 := F3.out.2.1.c2
  have d2 := F3.out.2.2.c2
  have a3 := F3.out.2.1.c3
  have d3 := F3.out.2.2.c3
  have a4 := F3.out.2.1.c4
  have d4 := F3.out.2.2.c4
  have a5 := F3.out.2.1.c5
  have d5 := F3.out.2.2.c5
  have a6 := F3.out.2.1.c6
  have d6 := F3.out.2.2.c6
  have a7 := F3.out.2.1.c7
  have d7 := F3.out.2.2.c7
  have a8 := F3.out.2.1.c8
  have d8 := F3.out.2.2.c8
  have a9 := F3.out.2.1.c9
  have d9 := F3.out.2.2.c9
  have a10 := F3.out.2.1.c10
  have d10 := F3.out.2.2.c10
  have a11 := F3.out.2.1.c11
  have d11 := F3.out.2.2.c11
  have a12 := F3.out.2.1.c12
  have d12 := F3.out.2.2.c12
  go_wp2_with fail
  refine (HET.out _ F3.out.1).mono ?_
  rintro r w4 ⟨rfl, hb4⟩
  have F4 : Hid (Below w.heap.size w w4 ∧ E13 w4 w.heap.size (.string key) (.int .i64 st) (.slice h1 hl k1) (.slice ba1 bn bc1) (.int .i64 t) (.int .i64 g) (.int .i64 l) (.int .i64 s) (.int .i64 e) (.bool b1) (.bool b2) (.slice ta1 tn tc1) (.int .i64 pins) ∧ E13 w4 (w.heap.size + 1) (.string key) (.int .i64 st) (.slice h2 hl k2) (.slice ba2 bn bc2) (.int .i64 t) (.int .i64 g) (.int .i64 l) (.int .i64 s) (.int .i64 e) (.bool b1) (.bool b2) (.slice ta2 tn tc2) (.int .i64 pins)) := ⟨F3.out.1.trans (hb4.mono F3.out.1.size), F3.out.2.1.keep hb4, F3.out.2.2.keep hb4⟩
  clear hb4 F3 a0 a1 a2 a3 a4 a5 a6 a7 a8 a9 a10 a11 a12 d0 d1 d2 d3 d4 d5 d6 d7 d8 d9 d10 d11 d12
  have a12 := F4.out.2.1.c12
  have d12 := F4.out.2.2.c12
  go_wp2_with fail
  go_ret
  exact ⟨rfl, F4.out.1⟩
theorem szTL_le {l : List ByteArray} {left : Int} (h : ¬ szTL left l < 0) : szTL left l ≤ left := by
  unfold szTL at h ⊢
  by_cases c : left - (l.length : Int) < 0
  · rw [if_pos c] at h; omega
  · rw [if_neg c] at h ⊢
    rcases szTs_le l (left - (l.length : Int)) with x | x <;> omega
theorem szE_room {left : Int} {key : ByteArray} {hs : List Hdr} {bs : List UInt8} {ts : List ByteArray} (hl : left ≤ 1048576) (h : ¬ szE left key hs bs ts < 0) : key.size ≤ 1048576 ∧ hs.length ≤ 1048576 ∧ bs.length ≤ 1048576 ∧ ts.length ≤ 1048576 ∧ szE left key hs bs ts ≤ left := by
  unfold szE at h ⊢
  split at h
  · exact absurd (by decide) h
  split at h
  · exact absurd (by decide) h
  split at h
  · exact absurd (by decide) h
  split at h
  · exact absurd (by decide) h
  rename_i c1 c2 c3 c4
  rw [if_neg c1, if_neg c2, if_neg c3, if_neg c4]
  have r1 := szHL_room (l := hs) (left := left - (key.size : Int)) (by omega) c2
  have r2 := szHL_le c2
  have r3 := szTL_room (l := ts) (left := szHL (left - (key.size : Int)) hs - (bs.length : Int)) (by omega) c4
  have r4 := szTL_le c4
  exact ⟨by omega, by omega, by omega, r3.1, by omega⟩
end Go.Proofs.YtopkidfbkhjaeaaGreatDoor
/-
  The laws' copy of head lines: what it holds may be written.
-/
namespace Go.Proofs.YtopkidfbkhjaeaaGreatDoor
open Go.ChangeShapes Go.WideShapes Go.ChangeAt Go.RowKit Go.Sort
set_option maxHeartbeats 2000000 in
theorem toHeaderS_free (w : World) (a : Option Addr) (cap : Nat) (l : List Hdr) (hl : l.length ≤ 1048576) (hi : l = [] ∨ ∃ b off, a = some ⟨b, off, none⟩ ∧ HeadsAt w b off l) :
    Calls Tryz.prog 44 #[.slice a l.length cap] w fun e w' => e = .returned (.slice (some ⟨w.heap.size, 0, none⟩) l.length l.length) ∧ HeadsAt w' w.heap.size 0 l ∧ w.heap.size < w'.heap.size ∧ (∀ o, w'.frozen? ⟨w.heap.size, o, none⟩ = false) ∧ Below w.heap.size w w' := by
  have HI : Hid (l = [] ∨ ∃ b off, a = some ⟨b, off, none⟩ ∧ HeadsAt w b off l) := hi
  obtain ⟨i0, hi0, hz0, hz1, hz2⟩ := info_parts infoHeader
  clear hi
  generalize hn : l.length = n at *
  have HN : Hid (l.length = n) := hn
  clear hn
  go_enter Tryz.func44, Tryz.ntmps44
  go_wp2_with (at_make; refine wpList_make_full w rfl _ _ 27 rfl w.heap.size 108 i0 _ 2 Tryz.underlying27 hi0 hz0 hz1 _ _ _ _ n rfl rfl rfl rfl (by rw [hz2]; omega) (by unfold maxLen; omega) (Nat.le_refl _) ?_; intro w1 hown hgrow)
  have HR1 : Hid (HRoom w1 w.heap.size (n * 2) ∧ (w.heap.size < w1.heap.size ∧ ∀ o, w1.frozen? ⟨w.heap.size, o, none⟩ = false) ∧ Below w.heap.size w w1) := by
    refine ⟨fun j hj => ⟨?_, hown.frozenAt j⟩, ⟨?lt, fun o => hown.frozenAt o⟩, (Below.refl _ _).grown hgrow (Nat.le_refl _) (fun q hq => by cases hq)⟩
    case lt =>
      obtain ⟨_, h | ⟨g, c, cur, e, _, hh, _⟩⟩ := hown
      · cases h.1
      · simp only [Value.slice.injEq, Option.some.injEq] at e
        have e1 := congrArg Addr.block e.1
        simp only at e1
        rw [e1]
        exact (Array.getElem?_eq_some_iff.1 hh).1
    have h1 := hown.cellAt j hj
    have h2 : j < (madeCells (Value.agg #[.string ⟨#[]⟩, .string ⟨#[]⟩]).cells (n * 2)).toList.length := by have := hown.1; omega
    exact ⟨_, h1.trans (List.getElem?_eq_getElem h2)⟩
  clear hown hgrow
  go_loopw [4] (fun i wr => ∃ k : Nat, k ≤ n ∧ i = .int .i64 k ∧ HeadsAt wr w.heap.size 0 (l.take k) ∧ HRoom wr w.heap.size (n * 2) ∧ (w.heap.size < wr.heap.size ∧ ∀ o, wr.frozen? ⟨w.heap.size, o, none⟩ = false) ∧ Below w.heap.size w wr) (fun i _ => n - (intOf i).toNat)
  case atStart => exact ⟨0, Nat.zero_le _, rfl, fun i r hr => by simp at hr, HR1.out.1, HR1.out.2.1, HR1.out.2.2⟩
  case round =>
    obtain ⟨k, hk, rfl, hat, hroom, hfr, hb⟩ := hrel
    have HFR : Hid (w.heap.size < wr.heap.size ∧ ∀ o, wr.frozen? ⟨w.heap.size, o, none⟩ = false) := hfr
    clear hfr
    clear HR1
    by_cases hlt : k < n
    · obtain ⟨r, hr⟩ : ∃ r, l[k]? = some r := ⟨l[k]'(by have := HN.out; omega), List.getElem?_eq_getElem _⟩
      rcases HI.out with h | ⟨b, off, rfl, hsrc⟩
      · subst h; simp at hr
      have hblt : b < w.heap.size := block_lt_of_cell (hsrc k r hr).1
      have hkeep := (hsrc.keep (w' := w) (Below.refl _ _)) k r hr
      have p1 : wr.cell? ⟨b, off + k * 2, none⟩ = some (.string r.name) := by rw [hb.cell (p := ⟨b, off + k * 2, none⟩) hblt]; exact hkeep.1
      have p3 : wr.cell? ⟨b, off + k * 2 + 1, none⟩ = some (.string r.value) := by rw [hb.cell (p := ⟨b, off + k * 2 + 1, none⟩) hblt]; exact hkeep.2
      have HA : Hid (HeadsAt wr w.heap.size 0 (l.take k)) := hat
      have HM : Hid (HRoom wr w.heap.size (n * 2)) := hroom
      have HR : Hid (l[k]? = some r) := hr
      have g : (k : Int) < n := by omega
      clear hat hroom hr hsrc hkeep HI
      go_wp2_with fail
      refine (toHeader_any r _).mono ?_
      rintro e w2 ⟨rfl, hb2⟩
      have HA2 : Hid (HeadsAt w2 w.heap.size 0 (l.take k)) := HA.out.keep hb2
      have HM2 : Hid (HRoom w2 w.heap.size (n * 2)) := HM.out.keep hb2
      have hbb : Below w.heap.size w w2 := hb.trans (hb2.mono hb.size)
      have HFR2 : Hid (w.heap.size < w2.heap.size ∧ ∀ o, w2.frozen? ⟨w.heap.size, o, none⟩ = false) := ⟨Nat.lt_of_lt_of_le HFR.out.1 hb2.size, fun o => by rw [hb2.frozen (p := ⟨w.heap.size, o, none⟩) HFR.out.1]; exact HFR.out.2 o⟩
      obtain ⟨⟨u0, g0⟩, f0⟩ := HM2.out (k * 2) (by omega)
      obtain ⟨⟨u1, g1⟩, f1⟩ := HM2.out (k * 2 + 1) (by omega)
      have HP : Hid (HeadsAt (put2 w2 w.heap.size k r) w.heap.size 0 (l.take (k + 1)) ∧ HRoom (put2 w2 w.heap.size k r) w.heap.size (n * 2)) := ⟨HA2.out.put HR.out HM2.out hlt, HM2.out.put k r⟩
      clear HA HM HA2 HM2 hb2 hb p1 p3
      obtain ⟨rn, rv⟩ := r
      go_wp2_with fail
      go_roundw
      case rel => exact ⟨k + 1, by omega, by go_num, HP.out.1, HP.out.2, ⟨by simpa using HFR2.out.1, fun o => by rw [World.frozen?_setCell, World.frozen?_setCell]; exact HFR2.out.2 o⟩, (hbb.setCell (Nat.le_refl _) _).setCell (Nat.le_refl _) _⟩
      case measure => simp [intOf]; omega
    · have HF : Hid (HeadsAt wr w.heap.size 0 l) := by
        have e : l.take k = l := List.take_of_length_le (by have := HN.out; omega)
        rw [e] at hat
        exact hat
      clear hat hroom
      go_wp2_with fail
      go_ret
      exact ⟨rfl, HF.out, HFR.out.1, HFR.out.2, hb⟩
end Go.Proofs.YtopkidfbkhjaeaaGreatDoor
/-
  Requests that came in: measured, taken over, compared.
-/
namespace Go.Proofs.YtopkidfbkhjaeaaGreatDoor
open Go.ChangeShapes Go.WideShapes Go.ChangeAt Go.RowKit
/-- Lines of the law's own, that may be written. -/
structure QMine (W : World) (B : Nat) (l : List Hdr) : Prop where
  at0 : HeadsAt W B 0 l
  free : ∀ o, W.frozen? ⟨B, o, none⟩ = false
  lt : B < W.heap.size
theorem QMine.keep {W W' : World} {B : Nat} {l : List Hdr} (h : QMine W B l) (hb : Below W.heap.size W W') : QMine W' B l :=
  ⟨h.at0.keep hb, fun o => by rw [hb.frozen (p := ⟨B, o, none⟩) h.lt]; exact h.free o, Nat.lt_of_lt_of_le h.lt hb.size⟩
def szRq (left : Int) (m h p : ByteArray) (l : List Hdr) : Int :=
  if left - (m.size : Int) < 0 then -1 else if left - (m.size : Int) - (h.size : Int) < 0 then -1 else if left - (m.size : Int) - (h.size : Int) - (p.size : Int) < 0 then -1 else
    if szHL (left - (m.size : Int) - (h.size : Int) - (p.size : Int)) l < 0 then -1 else szHL (left - (m.size : Int) - (h.size : Int) - (p.size : Int)) l
theorem szRq_room {left : Int} {m h p : ByteArray} {l : List Hdr} (hl : left ≤ 1048576) (hz : ¬ szRq left m h p l < 0) : m.size ≤ 1048576 ∧ h.size ≤ 1048576 ∧ p.size ≤ 1048576 ∧ l.length ≤ 1048576 ∧ szRq left m h p l ≤ left := by
  unfold szRq at hz ⊢
  by_cases c1 : left - (m.size : Int) < 0
  · rw [if_pos c1] at hz; omega
  rw [if_neg c1] at hz ⊢
  by_cases c2 : left - (m.size : Int) - (h.size : Int) < 0
  · rw [if_pos c2] at hz; omega
  rw [if_neg c2] at hz ⊢
  by_cases c3 : left - (m.size : Int) - (h.size : Int) - (p.size : Int) < 0
  · rw [if_pos c3] at hz; omega
  rw [if_neg c3] at hz ⊢
  by_cases c4 : szHL (left - (m.size : Int) - (h.size : Int) - (p.size : Int)) l < 0
  · rw [if_pos c4] at hz; omega
  rw [if_neg c4] at hz ⊢
  have a := (szHL_room (by omega) c4).1
  have b := szHL_le c4
  exact ⟨by omega, by omega, by omega, by omega, by omega⟩
set_option maxHeartbeats 2000000 in
theorem szRequest_any (w : World) (m h p : ByteArray) (a : Option Addr) (cap : Nat) (l : List Hdr) (z1 : m.size ≤ maxLen) (z2 : h.size ≤ maxLen) (z3 : p.size ≤ maxLen) (hl : l.length ≤ maxLen) (hz : SmallHdrs l) (hi : HdsIn w a l) (left : Int) (h0 : 0 ≤ left) (h1 : left ≤ 1048576) :
    Calls Tryz.prog 16 #[.agg #[.string m, .string h, .string p, .slice a l.length cap], .int .i64 left] w fun e w' => e = .returned (.int .i64 (szRq left m h p l)) ∧ Below w.heap.size w w' := by
  have HE : Hid (szRq left m h p l = _) := show szRq left m h p l = _ from rfl
  unfold szRq at HE
  obtain ⟨W, hW⟩ : ∃ W, W = w.alloc (.cells #[.string m, .string h, .string p, .slice a l.length cap] 40) := ⟨_, rfl⟩
  have HW : Hid (W = w.alloc (.cells #[.string m, .string h, .string p, .slice a l.length cap] 40)) := hW
  have bW : Below w.heap.size w W := by rw [hW]; exact (Below.refl _ _).alloc (Nat.le_refl _) _
  have HB : Hid (Below w.heap.size w W) := bW
  unfold maxLen at z1 z2 z3
  by_cases c1 : left - (m.size : Int) < 0
  · have HV : Hid (szRq left m h p l = -1) := by show _ = _; unfold szRq; rw [if_pos c1]
    rw [HW.out] at HB
    clear HE hW bW HW hi hz
    generalize l.length = n at *
    go_enter Tryz.func16, Tryz.ntmps16
    go_wp2_with fail
    go_ret
    exact ⟨ret_int HV.out.symm, HB.out⟩
  by_cases c2 : left - (m.size : Int) - (h.size : Int) < 0
  · have HV : Hid (szRq left m h p l = -1) := by show _ = _; unfold szRq; rw [if_neg c1, if_pos c2]
    rw [HW.out] at HB
    clear HE hW bW HW hi hz
    generalize l.length = n at *
    go_enter Tryz.func16, Tryz.ntmps16
    go_wp2_with fail
    go_ret
    exact ⟨ret_int HV.out.symm, HB.out⟩
  by_cases c3 : left - (m.size : Int) - (h.size : Int) - (p.size : Int) < 0
  · have HV : Hid (szRq left m h p l = -1) := by show _ = _; unfold szRq; rw [if_neg c1, if_neg c2, if_pos c3]
    rw [HW.out] at HB
    clear HE hW bW HW hi hz
    generalize l.length = n at *
    go_enter Tryz.func16, Tryz.ntmps16
    go_wp2_with fail
    go_ret
    exact ⟨ret_int HV.out.symm, HB.out⟩
  have C := szHeaderS_any W a cap l hl (hi.keep bW) hz (left - (m.size : Int) - (h.size : Int) - (p.size : Int)) (by omega) (by omega)
  have HV1 : Hid (szHL (left - (m.size : Int) - (h.size : Int) - (p.size : Int)) l < 0 → szRq left m h p l = -1) := fun c => by unfold szRq; rw [if_neg c1, if_neg c2, if_neg c3, if_pos c]
  have HV2 : Hid (¬ szHL (left - (m.size : Int) - (h.size : Int) - (p.size : Int)) l < 0 → szRq left m h p l = szHL (left - (m.size : Int) - (h.size : Int) - (p.size : Int)) l) := fun c => by unfold szRq; rw [if_neg c1, if_neg c2, if_neg c3, if_neg c]
  clear HE hW bW hi hz
  generalize szHL (left - (m.size : Int) - (h.size : Int) - (p.size : Int)) l = z at *
  generalize l.length = n at *
  go_enter Tryz.func16, Tryz.ntmps16
  go_wp2_with fail
  rw [← HW.out]
  refine C.mono ?_
  rintro e w1 ⟨rfl, hb1⟩
  have HB1 : Hid (Below w.heap.size w w1) := HB.out.trans (hb1.mono HB.out.size)
  clear hb1 HB C HW
  by_cases c4 : z < 0
  · have HV := HV1.out c4
    have HV' : Hid (szRq left m h p l = -1) := HV
    clear HV HV1 HV2
    go_wp2_with fail
    go_ret
    exact ⟨ret_int HV'.out.symm, HB1.out⟩
  · have HV' : Hid (szRq left m h p l = z) := HV2.out (by omega)
    clear HV1 HV2
    go_wp2_with fail
    go_ret
    exact ⟨ret_int HV'.out.symm, HB1.out⟩
/-- Four cells of a block, laid out. -/
structure Four (W : World) (B : Nat) (v0 v1 v2 v3 : Value) : Prop where
  c0 : W.cell? ⟨B, 0, none⟩ = some v0
  c1 : W.cell? ⟨B, 1, none⟩ = some v1
  c2 : W.cell? ⟨B, 2, none⟩ = some v2
  c3 : W.cell? ⟨B, 3, none⟩ = some v3
  fr : ∀ o, W.frozen? ⟨B, o, none⟩ = false
  lt : B < W.heap.size
theorem Four.keep {W W' : World} {B : Nat} {v0 v1 v2 v3 : Value} (h : Four W B v0 v1 v2 v3) (hb : Below W.heap.size W W') : Four W' B v0 v1 v2 v3 :=
  ⟨by rw [hb.cell (p := ⟨B, 0, none⟩) h.lt]; exact h.c0, by rw [hb.cell (p := ⟨B, 1, none⟩) h.lt]; exact h.c1, by rw [hb.cell (p := ⟨B, 2, none⟩) h.lt]; exact h.c2, by rw [hb.cell (p := ⟨B, 3, none⟩) h.lt]; exact h.c3,
    fun o => by rw [hb.frozen (p := ⟨B, o, none⟩) h.lt]; exact h.fr o, Nat.lt_of_lt_of_le h.lt hb.size⟩
theorem Four.new (W : World) (v0 v1 v2 v3 : Value) (t : TypeId) : Four (W.alloc (.cells #[v0, v1, v2, v3] t)) W.heap.size v0 v1 v2 v3 :=
  ⟨by rw [World.cell?_alloc_mark]; rfl, by rw [World.cell?_alloc_mark]; rfl, by rw [World.cell?_alloc_mark]; rfl, by rw [World.cell?_alloc_mark]; rfl, fun o => by have e := heap_alloc_new W (.cells #[v0, v1, v2, v3] t); unfold World.frozen?; rw [e]; simp, by simp⟩
set_option maxHeartbeats 2000000 in
theorem toRequest_any (w : World) (m h p : ByteArray) (a : Option Addr) (cap : Nat) (l : List Hdr) (hl : l.length ≤ 1048576) (hi : HdsIn w a l) :
    Calls Tryz.prog 19 #[.agg #[.string m, .string h, .string p, .slice a l.length cap]] w fun e w' => e = .returned (.agg #[.string m, .string h, .string p, .slice (some ⟨w.heap.size + 3, 0, none⟩) l.length l.length]) ∧ QMine w' (w.heap.size + 3) l ∧ Below w.heap.size w w' := by
  obtain ⟨W, hW⟩ : ∃ W, W = ((w.alloc (.cells #[.string m, .string h, .string p, .slice a l.length cap] 40)).alloc (.cells #[.string ⟨#[]⟩, .string ⟨#[]⟩, .string ⟨#[]⟩, .slice none 0 0] 49)).alloc (.cells #[.string m, .string h, .string p, .slice none 0 0] 49) := ⟨_, rfl⟩
  have HW : Hid (W = ((w.alloc (.cells #[.string m, .string h, .string p, .slice a l.length cap] 40)).alloc (.cells #[.string ⟨#[]⟩, .string ⟨#[]⟩, .string ⟨#[]⟩, .slice none 0 0] 49)).alloc (.cells #[.string m, .string h, .string p, .slice none 0 0] 49)) := hW
  have bW : Below w.heap.size w W := by rw [hW]; exact (((Below.refl _ _).alloc (Nat.le_refl _) _).alloc (by simp) _).alloc (by simp; omega) _
  have hsz : W.heap.size = w.heap.size + 3 := by rw [hW]; simp
  have f2 : Four W (w.heap.size + 2) (.string m) (.string h) (.string p) (.slice none 0 0) := by
    rw [hW]
    have := Four.new ((w.alloc (.cells #[.string m, .string h, .string p, .slice a l.length cap] 40)).alloc (.cells #[.string ⟨#[]⟩, .string ⟨#[]⟩, .string ⟨#[]⟩, .slice none 0 0] 49)) (.string m) (.string h) (.string p) (.slice none 0 0) 49
    simpa using this
  have f1 : Four W (w.heap.size + 1) (.string ⟨#[]⟩) (.string ⟨#[]⟩) (.string ⟨#[]⟩) (.slice none 0 0) := by
    rw [hW]
    have := (Four.new (w.alloc (.cells #[.string m, .string h, .string p, .slice a l.length cap] 40)) (.string ⟨#[]⟩) (.string ⟨#[]⟩) (.string ⟨#[]⟩) (.slice none 0 0) 49).keep ((Below.refl _ _).alloc (Nat.le_refl _) (.cells #[.string m, .string h, .string p, .slice none 0 0] 49))
    simpa using this
  have C := toHeaderS_free W a cap l hl (hi.keep bW)
  rw [hsz] at C
  have HB : Hid (Below w.heap.size w W) := bW
  have HZ : Hid (W.heap.size = w.heap.size + 3) := hsz
  have F1 : Hid (Four W (w.heap.size + 1) (.string ⟨#[]⟩) (.string ⟨#[]⟩) (.string ⟨#[]⟩) (.slice none 0 0)) := f1
  have F2 : Hid (Four W (w.heap.size + 2) (.string m) (.string h) (.string p) (.slice none 0 0)) := f2
  clear hW bW hi hsz f1 f2
  generalize l.length = n at *
  go_enter Tryz.func19, Tryz.ntmps19
  go_wp2_with fail
  rw [← HW.out]
  refine C.mono ?_
  rintro e w1 ⟨rfl, hat, hlt, hfr, hb1⟩
  have hb1' : Below W.heap.size W w1 := by rw [HZ.out]; exact hb1
  obtain ⟨a0, a1, a2, a3, af, al⟩ := F2.out.keep hb1'
  obtain ⟨b0, b1, b2, b3, bf, bl⟩ := F1.out.keep hb1'
  have a3f := af 3
  have b0f := bf 0
  have b1f := bf 1
  have b2f := bf 2
  have b3f := bf 3
  have HM : Hid (QMine w1 (w.heap.size + 3) l) := ⟨hat, hfr, hlt⟩
  have HB1 : Hid (Below w.heap.size w w1) := HB.out.trans (hb1'.mono HB.out.size)
  have HQ : Hid (∀ W', (∀ o, W'.cell? ⟨w.heap.size + 3, o, none⟩ = w1.cell? ⟨w.heap.size + 3, o, none⟩) → (∀ o, W'.frozen? ⟨w.heap.size + 3, o, none⟩ = w1.frozen? ⟨w.heap.size + 3, o, none⟩) → W'.heap.size = w1.heap.size → QMine W' (w.heap.size + 3) l) := fun W' h1 h2 h3 =>
    ⟨fun i r hr => by rw [h1, h1]; exact hat i r hr, fun o => by rw [h2]; exact hfr o, by rw [h3]; exact hlt⟩
  clear hat hlt hfr hb1 hb1' C HW HB HZ F1 F2 af bf al bl HM
  go_wp2_with fail
  refine bodyPost_ret (v := .agg #[.string m, .string h, .string p, .slice (some ⟨w.heap.size + 3, 0, none⟩) n n]) ?_ rfl ⟨rfl, HQ.out _ (fun o => ?_) (fun o => ?_) ?_, ?_⟩
  · simp [results, Tryz.results19, go_sem, b0, b1, b2, b3]
  · have ne : ∀ k j : Nat, k < w.heap.size + 3 → (⟨k, j, none⟩ : Addr) ≠ ⟨w.heap.size + 3, o, none⟩ := fun k j hk e => by have := congrArg Addr.block e; simp only at this; omega
    rw [World.cell?_setCell_other _ _ _ _ (ne _ _ (by omega)), World.cell?_setCell_other _ _ _ _ (ne _ _ (by omega)), World.cell?_setCell_other _ _ _ _ (ne _ _ (by omega)), World.cell?_setCell_other _ _ _ _ (ne _ _ (by omega)), World.cell?_setCell_other _ _ _ _ (ne _ _ (by omega))]
  · simp only [World.frozen?_setCell]
  · simp
  · exact ((((HB1.out.setCell (by simp; omega) _).setCell (by simp) _).setCell (by simp) _).setCell (by simp) _).setCell (by simp) _
set_option maxHeartbeats 2000000 in
theorem eqRequest_same (W : World) (m h p : ByteArray) (b1 b2 : Nat) (l : List Hdr) (hl : l.length ≤ 1048576) (h1 : HeadsAt W b1 0 l) (h2 : HeadsAt W b2 0 l) :
    Calls Tryz.prog 23 #[.agg #[.string m, .string h, .string p, .slice (some ⟨b1, 0, none⟩) l.length l.length], .agg #[.string m, .string h, .string p, .slice (some ⟨b2, 0, none⟩) l.length l.length]] W fun e w' => e = .returned (.bool true) ∧ Below W.heap.size W w' := by
  have bW : Below W.heap.size W ((W.alloc (.cells #[.string m, .string h, .string p, .slice (some ⟨b1, 0, none⟩) l.length l.length] 49)).alloc (.cells #[.string m, .string h, .string p, .slice (some ⟨b2, 0, none⟩) l.length l.length] 49)) := ((Below.refl _ _).alloc (Nat.le_refl _) _).alloc (by simp) _
  have C := eqHeaderS_same _ b1 0 b2 0 l.length l.length l hl (h1.keep bW) (h2.keep bW)
  have HB : Hid (Below W.heap.size W _) := bW
  clear bW h1 h2
  generalize l.length = n at *
  go_enter Tryz.func23, Tryz.ntmps23
  go_wp2_with fail
  refine C.mono ?_
  rintro e w1 ⟨rfl, hb1⟩
  have HB1 : Hid (Below W.heap.size W w1) := HB.out.trans (hb1.mono HB.out.size)
  clear hb1 HB C
  go_wp2_with fail
  go_ret
  exact ⟨rfl, HB1.out⟩
end Go.Proofs.YtopkidfbkhjaeaaGreatDoor
/-
  Responses that came in: measured, taken over, compared.
-/
namespace Go.Proofs.YtopkidfbkhjaeaaGreatDoor
open Go.ChangeShapes Go.WideShapes Go.ChangeAt Go.RowKit
structure Three (W : World) (B : Nat) (v0 v1 v2 : Value) : Prop where
  c0 : W.cell? ⟨B, 0, none⟩ = some v0
  c1 : W.cell? ⟨B, 1, none⟩ = some v1
  c2 : W.cell? ⟨B, 2, none⟩ = some v2
  fr : ∀ o, W.frozen? ⟨B, o, none⟩ = false
  lt : B < W.heap.size
theorem Three.keep {W W' : World} {B : Nat} {v0 v1 v2 : Value} (h : Three W B v0 v1 v2) (hb : Below W.heap.size W W') : Three W' B v0 v1 v2 :=
  ⟨by rw [hb.cell (p := ⟨B, 0, none⟩) h.lt]; exact h.c0, by rw [hb.cell (p := ⟨B, 1, none⟩) h.lt]; exact h.c1, by rw [hb.cell (p := ⟨B, 2, none⟩) h.lt]; exact h.c2,
    fun o => by rw [hb.frozen (p := ⟨B, o, none⟩) h.lt]; exact h.fr o, Nat.lt_of_lt_of_le h.lt hb.size⟩
theorem Three.new (W : World) (v0 v1 v2 : Value) (t : TypeId) : Three (W.alloc (.cells #[v0, v1, v2] t)) W.heap.size v0 v1 v2 :=
  ⟨by rw [World.cell?_alloc_mark]; rfl, by rw [World.cell?_alloc_mark]; rfl, by rw [World.cell?_alloc_mark]; rfl, fun o => by have e := heap_alloc_new W (.cells #[v0, v1, v2] t); unfold World.frozen?; rw [e]; simp, by simp⟩
def szP (left : Int) (l : List Hdr) (n : Nat) : Int := if szHL left l < 0 then -1 else if szHL left l - (n : Int) < 0 then -1 else szHL left l - (n : Int)
theorem szP_room {left : Int} {l : List Hdr} {n : Nat} (hl : left ≤ 1048576) (hz : ¬ szP left l n < 0) : l.length ≤ 1048576 ∧ n ≤ 1048576 ∧ szP left l n ≤ left := by
  unfold szP at hz ⊢
  by_cases c1 : szHL left l < 0
  · rw [if_pos c1] at hz; omega
  rw [if_neg c1] at hz ⊢
  by_cases c2 : szHL left l - (n : Int) < 0
  · rw [if_pos c2] at hz; omega
  rw [if_neg c2] at hz ⊢
  have a := (szHL_room hl c1).1
  have b := szHL_le c1
  exact ⟨by omega, by omega, by omega⟩
set_option maxHeartbeats 2000000 in
theorem szResponse_any (w : World) (s : Int) (a : Option Addr) (cap : Nat) (l : List Hdr) (b : Option Addr) (bn bc : Nat) (hl : l.length ≤ maxLen) (hz : SmallHdrs l) (hi : HdsIn w a l) (hbn : bn ≤ maxLen) (left : Int) (h0 : 0 ≤ left) (h1 : left ≤ 1048576) :
    Calls Tryz.prog 7 #[.agg #[.int .i64 s, .slice a l.length cap, .slice b bn bc], .int .i64 left] w fun e w' => e = .returned (.int .i64 (szP left l bn)) ∧ Below w.heap.size w w' := by
  obtain ⟨W, hW⟩ : ∃ W, W = w.alloc (.cells #[.int .i64 s, .slice a l.length cap, .slice b bn bc] 25) := ⟨_, rfl⟩
  have HW : Hid (W = w.alloc (.cells #[.int .i64 s, .slice a l.length cap, .slice b bn bc] 25)) := hW
  have bW : Below w.heap.size w W := by rw [hW]; exact (Below.refl _ _).alloc (Nat.le_refl _) _
  have fW : Three W w.heap.size (.int .i64 s) (.slice a l.length cap) (.slice b bn bc) := by rw [hW]; exact Three.new _ _ _ _ _
  have HB : Hid (Below w.heap.size w W) := bW
  have C := szHeaderS_any W a cap l hl (hi.keep bW) hz left h0 h1
  have HV1 : Hid (szHL left l < 0 → szP left l bn = -1) := fun c => by unfold szP; rw [if_pos c]
  have HV2 : Hid (¬ szHL left l < 0 → szHL left l - (bn : Int) < 0 → szP left l bn = -1) := fun c c2 => by unfold szP; rw [if_neg c, if_pos c2]
  have HV3 : Hid (¬ szHL left l < 0 → ¬ szHL left l - (bn : Int) < 0 → szP left l bn = szHL left l - (bn : Int)) := fun c c2 => by unfold szP; rw [if_neg c, if_neg c2]
  have HLE : Hid (¬ szHL left l < 0 → szHL left l ≤ left) := szHL_le
  have F : Hid (Three W w.heap.size (.int .i64 s) (.slice a l.length cap) (.slice b bn bc)) := fW
  clear hW bW hi hz fW
  generalize szHL left l = z at *
  generalize szP left l bn = q at *
  generalize l.length = n at *
  go_enter Tryz.func7, Tryz.ntmps7
  go_wp2_with fail
  rw [← HW.out]
  refine C.mono ?_
  rintro e w1 ⟨rfl, hb1⟩
  have HB1 : Hid (Below w.heap.size w w1) := HB.out.trans (hb1.mono HB.out.size)
  have c2 := (F.out.keep hb1).c2
  clear hb1 HB C HW F
  by_cases c4 : z < 0
  · have HV : Hid (q = -1) := HV1.out c4
    clear HV1 HV2 HV3 HLE
    go_wp2_with fail
    go_ret
    exact ⟨ret_int HV.out.symm, HB1.out⟩
  have hz1 := HLE.out (by omega)
  have C2 := szByteS_any b bn bc z w1 (by omega) (by omega) hbn
  by_cases c5 : z - (bn : Int) < 0
  · have HV : Hid (q = -1) := HV2.out (by omega) (by omega)
    rw [if_pos c5] at C2
    clear HV1 HV2 HV3 HLE
    go_wp2_with fail
    refine C2.mono ?_
    rintro e w2 ⟨rfl, hw⟩
    obtain rfl := hw.symm
    clear C2 hw
    go_wp2_with fail
    go_ret
    exact ⟨ret_int HV.out.symm, HB1.out⟩
  · have HV : Hid (q = z - (bn : Int)) := HV3.out (by omega) (by omega)
    rw [if_neg c5] at C2
    clear HV1 HV2 HV3 HLE
    generalize z - (bn : Int) = y at *
    go_wp2_with fail
    refine C2.mono ?_
    rintro e w2 ⟨rfl, hw⟩
    obtain rfl := hw.symm
    clear C2 hw
    go_wp2_with fail
    go_ret
    exact ⟨ret_int HV.out.symm, HB1.out⟩
/-- A response of the law's own. -/
def RespRes (k : Nat) (s : Int) (l : List Hdr) (bl : List UInt8) (e : Ending) (w' : World) : Prop :=
  ∃ B, e = .returned (.agg #[.int .i64 s, .slice (some ⟨k + 3, 0, none⟩) l.length l.length, .slice (some ⟨B, 0, none⟩) bl.length bl.length]) ∧ QMine w' (k + 3) l ∧ BMine w' B bl ∧ k + 3 < B
set_option maxHeartbeats 4000000 in
theorem toResponse_any (w : World) (s : Int) (a : Option Addr) (cap : Nat) (l : List Hdr) (b : Option Addr) (bc : Nat) (bl : List UInt8) (hl : l.length ≤ 1048576) (hbl : bl.length ≤ 1048576) (hi : HdsIn w a l) (hib : BIn w b bl) :
    Calls Tryz.prog 9 #[.agg #[.int .i64 s, .slice a l.length cap, .slice b bl.length bc]] w fun e w' => RespRes w.heap.size s l bl e w' ∧ Below w.heap.size w w' := by
  obtain ⟨W, hW⟩ : ∃ W, W = ((w.alloc (.cells #[.int .i64 s, .slice a l.length cap, .slice b bl.length bc] 25)).alloc (.cells #[.int .i64 0, .slice none 0 0, .slice none 0 0] 29)).alloc (.cells #[.int .i64 s, .slice none 0 0, .slice none 0 0] 29) := ⟨_, rfl⟩
  have HW : Hid (W = ((w.alloc (.cells #[.int .i64 s, .slice a l.length cap, .slice b bl.length bc] 25)).alloc (.cells #[.int .i64 0, .slice none 0 0, .slice none 0 0] 29)).alloc (.cells #[.int .i64 s, .slice none 0 0, .slice none 0 0] 29)) := hW
  have bW : Below w.heap.size w W := by rw [hW]; exact (((Below.refl _ _).alloc (Nat.le_refl _) _).alloc (by simp) _).alloc (by simp; omega) _
  have hsz : W.heap.size = w.heap.size + 3 := by rw [hW]; simp
  have f2 : Three W (w.heap.size + 2) (.int .i64 s) (.slice none 0 0) (.slice none 0 0) := by
    rw [hW]
    have := Three.new ((w.alloc (.cells #[.int .i64 s, .slice a l.length cap, .slice b bl.length bc] 25)).alloc (.cells #[.int .i64 0, .slice none 0 0, .slice none 0 0] 29)) (.int .i64 s) (.slice none 0 0) (.slice none 0 0) 29
    simpa using this
  have f1 : Three W (w.heap.size + 1) (.int .i64 0) (.slice none 0 0) (.slice none 0 0) := by
    rw [hW]
    have := (Three.new (w.alloc (.cells #[.int .i64 s, .slice a l.length cap, .slice b bl.length bc] 25)) (.int .i64 0) (.slice none 0 0) (.slice none 0 0) 29).keep ((Below.refl _ _).alloc (Nat.le_refl _) (.cells #[.int .i64 s, .slice none 0 0, .slice none 0 0] 29))
    simpa using this
  have f0 : Three W w.heap.size (.int .i64 s) (.slice a l.length cap) (.slice b bl.length bc) := by
    rw [hW]
    exact ((Three.new w (.int .i64 s) (.slice a l.length cap) (.slice b bl.length bc) 25).keep ((Below.refl _ _).alloc (Nat.le_refl _) _)).keep ((Below.refl _ _).alloc (Nat.le_refl _) _)
  have C := toHeaderS_free W a cap l hl (hi.keep bW)
  rw [hsz] at C
  have HB : Hid (Below w.heap.size w W) := bW
  have HZ : Hid (W.heap.size = w.heap.size + 3) := hsz
  have HC : Hid (∀ X, Below w.heap.size w X → Calls Tryz.prog 45 #[.slice b bl.length bc] X fun e w' => e = .returned (.slice (some ⟨X.heap.size, 0, none⟩) bl.length bl.length) ∧ BMine w' X.heap.size bl ∧ Below X.heap.size X w') := fun X hb => toByteS_any X b bc bl hbl (hib.keep hb)
  have F : Hid (Three W w.heap.size (.int .i64 s) (.slice a l.length cap) (.slice b bl.length bc) ∧ Three W (w.heap.size + 1) (.int .i64 0) (.slice none 0 0) (.slice none 0 0) ∧ Three W (w.heap.size + 2) (.int .i64 s) (.slice none 0 0) (.slice none 0 0)) := ⟨f0, f1, f2⟩
  clear hW bW hi hsz f1 f2 f0 hib
  have HRes : Hid (∀ e w', RespRes w.heap.size s l bl e w' ↔ RespRes w.heap.size s l bl e w') := fun _ _ => Iff.rfl
  generalize hn : l.length = n at *
  generalize hbn : bl.length = bn at *
  have HN : Hid (l.length = n ∧ bl.length = bn) := ⟨hn, hbn⟩
  clear hn hbn HRes
  go_enter Tryz.func9, Tryz.ntmps9
  go_wp2_with fail
  rw [← HW.out]
  refine C.mono ?_
  rintro e w1 ⟨rfl, hat, hlt, hfr, hb1⟩
  have hb1' : Below W.heap.size W w1 := by rw [HZ.out]; exact hb1
  obtain ⟨g0, g1, g2⟩ := F.out
  have HM1 : Hid (QMine w1 (w.heap.size + 3) l ∧ Below w.heap.size w w1 ∧ Three w1 w.heap.size (.int .i64 s) (.slice a n cap) (.slice b bn bc) ∧ Three w1 (w.heap.size + 1) (.int .i64 0) (.slice none 0 0) (.slice none 0 0)) := ⟨⟨hat, hfr, hlt⟩, HB.out.trans (hb1'.mono HB.out.size), g0.keep hb1', g1.keep hb1'⟩
  obtain ⟨a0, a1, a2, af, al⟩ := g2.keep hb1'
  have a1f := af 1
  obtain ⟨V, hV⟩ : ∃ V, V = w1.setCell ⟨w.heap.size + 2, 1, none⟩ (.slice (some ⟨w.heap.size + 3, 0, none⟩) n n) := ⟨_, rfl⟩
  have HV : Hid (V = w1.setCell ⟨w.heap.size + 2, 1, none⟩ (.slice (some ⟨w.heap.size + 3, 0, none⟩) n n)) := hV
  have ne : ∀ k j o : Nat, k ≠ w.heap.size + 2 → (⟨w.heap.size + 2, j, none⟩ : Addr) ≠ ⟨k, o, none⟩ := fun k j o hk e => by have := congrArg Addr.block e; simp only at this; omega
  have keepc : ∀ k o, k ≠ w.heap.size + 2 → V.cell? ⟨k, o, none⟩ = w1.cell? ⟨k, o, none⟩ := fun k o hk => by rw [hV, World.cell?_setCell_other _ _ _ _ (ne _ _ _ hk)]
  have keepf : ∀ k o, V.frozen? ⟨k, o, none⟩ = w1.frozen? ⟨k, o, none⟩ := fun k o => by rw [hV, World.frozen?_setCell]
  have hVs : V.heap.size = w1.heap.size := by rw [hV]; simp
  have t2 : Three V (w.heap.size + 2) (.int .i64 s) (.slice (some ⟨w.heap.size + 3, 0, none⟩) n n) (.slice none 0 0) := by
    refine ⟨?_, ?_, ?_, fun o => by rw [keepf]; exact af o, by rw [hVs]; exact al⟩
    · rw [hV, World.cell?_setCell_other _ _ _ _ (hoff_ne (by omega))]; exact a0
    · rw [hV]; exact World.cell?_setCell_same _ _ _ a1
    · rw [hV, World.cell?_setCell_other _ _ _ _ (hoff_ne (by omega))]; exact a2
  obtain ⟨q1, q2, q3, q4⟩ := HM1.out
  have K : Hid (QMine V (w.heap.size + 3) l ∧ Below w.heap.size w V ∧ Three V w.heap.size (.int .i64 s) (.slice a n cap) (.slice b bn bc) ∧ Three V (w.heap.size + 1) (.int .i64 0) (.slice none 0 0) (.slice none 0 0) ∧ Three V (w.heap.size + 2) (.int .i64 s) (.slice (some ⟨w.heap.size + 3, 0, none⟩) n n) (.slice none 0 0)) := by
    refine ⟨⟨fun i r hr => by rw [keepc _ _ (by omega), keepc _ _ (by omega)]; exact q1.at0 i r hr, fun o => by rw [keepf]; exact q1.free o, by rw [hVs]; exact q1.lt⟩, by rw [hV]; exact q2.setCell (by simp) _, ?_, ?_, t2⟩
    · exact ⟨by rw [keepc _ _ (by omega)]; exact q3.c0, by rw [keepc _ _ (by omega)]; exact q3.c1, by rw [keepc _ _ (by omega)]; exact q3.c2, fun o => by rw [keepf]; exact q3.fr o, by rw [hVs]; exact q3.lt⟩
    · exact ⟨by rw [keepc _ _ (by omega)]; exact q4.c0, by rw [keepc _ _ (by omega)]; exact q4.c1, by rw [keepc _ _ (by omega)]; exact q4.c2, fun o => by rw [keepf]; exact q4.fr o, by rw [hVs]; exact q4.lt⟩
  have C2 := HC.out V K.out.2.1
  have gc2 := q3.c2
  clear hat hlt hfr hb1 hb1' C HW HB HZ F af al g0 g1 g2 HM1 q1 q2 q3 q4 t2 keepc keepf hVs ne hV HC
  go_wp2_with fail
  have hVx := HV.out
  rw [← hVx]
  refine C2.mono ?_
  rintro e w2 ⟨rfl, hbm, hb2⟩
  obtain ⟨q1, q2, q3, q4, q5⟩ := K.out
  have k1 := q1.keep hb2
  have k4 := q4.keep hb2
  have k5 := q5.keep hb2
  have HM : Hid (QMine w2 (w.heap.size + 3) l ∧ BMine w2 V.heap.size bl ∧ Below w.heap.size w w2 ∧ w.heap.size + 3 < V.heap.size) := ⟨k1, hbm, q2.trans (hb2.mono q2.size), q1.lt⟩
  obtain ⟨a0, a1, a2, af, _⟩ := k5
  obtain ⟨b0, b1, b2, bf, _⟩ := k4
  have a2f := af 2
  have b0f := bf 0
  have b1f := bf 1
  have b2f := bf 2
  clear C2 hb2 hbm K q1 q2 q3 q4 q5 k1 af bf HV hVx
  generalize V.heap.size = B at *
  go_wp2_with fail
  obtain ⟨m1, m2, m3, m4⟩ := HM.out
  obtain ⟨rfl, rfl⟩ := HN.out
  refine bodyPost_ret (v := .agg #[.int .i64 s, .slice (some ⟨w.heap.size + 3, 0, none⟩) l.length l.length, .slice (some ⟨B, 0, none⟩) bl.length bl.length]) ?_ rfl ⟨⟨B, rfl, ?_, ?_, m4⟩, ?_⟩
  · simp [results, Tryz.results9, go_sem, b0, b1, b2]
  · have ne : ∀ k j o : Nat, k < w.heap.size + 3 → (⟨k, j, none⟩ : Addr) ≠ ⟨w.heap.size + 3, o, none⟩ := fun k j o hk e => by have := congrArg Addr.block e; simp only at this; omega
    refine ⟨fun i r hr => ?_, fun o => by simp only [World.frozen?_setCell]; exact m1.free o, by simpa using m1.lt⟩
    rw [World.cell?_setCell_other _ _ _ _ (ne _ _ _ (by omega)), World.cell?_setCell_other _ _ _ _ (ne _ _ _ (by omega)), World.cell?_setCell_other _ _ _ _ (ne _ _ _ (by omega)), World.cell?_setCell_other _ _ _ _ (ne _ _ _ (by omega)), World.cell?_setCell_other _ _ _ _ (ne _ _ _ (by omega)), World.cell?_setCell_other _ _ _ _ (ne _ _ _ (by omega)), World.cell?_setCell_other _ _ _ _ (ne _ _ _ (by omega)), World.cell?_setCell_other _ _ _ _ (ne _ _ _ (by omega))]
    exact m1.at0 i r hr
  · have ne : ∀ k j o : Nat, k < w.heap.size + 3 → (⟨k, j, none⟩ : Addr) ≠ ⟨B, o, none⟩ := fun k j o hk e => by have := congrArg Addr.block e; simp only at this; omega
    refine ⟨fun i r hr => ?_, fun o ho => by simp only [World.frozen?_setCell]; exact m2.free o ho, by simpa using m2.lt⟩
    rw [World.cell?_setCell_other _ _ _ _ (ne _ _ _ (by omega)), World.cell?_setCell_other _ _ _ _ (ne _ _ _ (by omega)), World.cell?_setCell_other _ _ _ _ (ne _ _ _ (by omega)), World.cell?_setCell_other _ _ _ _ (ne _ _ _ (by omega))]
    exact m2.at0 i r hr
  · exact (((m3.setCell (by simp; omega) _).setCell (by simp) _).setCell (by simp) _).setCell (by simp) _
set_option maxHeartbeats 2000000 in
theorem eqResponse_same (W : World) (s : Int) (b1 b2 : Nat) (l : List Hdr) (d1 d2 : Nat) (bl : List UInt8) (hl : l.length ≤ 1048576) (hbl : bl.length ≤ 1048576) (h1 : HeadsAt W b1 0 l) (h2 : HeadsAt W b2 0 l) (k1 : BMine W d1 bl) (k2 : BMine W d2 bl) :
    Calls Tryz.prog 12 #[.agg #[.int .i64 s, .slice (some ⟨b1, 0, none⟩) l.length l.length, .slice (some ⟨d1, 0, none⟩) bl.length bl.length], .agg #[.int .i64 s, .slice (some ⟨b2, 0, none⟩) l.length l.length, .slice (some ⟨d2, 0, none⟩) bl.length bl.length]] W fun e w' => e = .returned (.bool true) ∧ Below W.heap.size W w' := by
  obtain ⟨V, hV⟩ : ∃ V, V = (W.alloc (.cells #[.int .i64 s, .slice (some ⟨b1, 0, none⟩) l.length l.length, .slice (some ⟨d1, 0, none⟩) bl.length bl.length] 29)).alloc (.cells #[.int .i64 s, .slice (some ⟨b2, 0, none⟩) l.length l.length, .slice (some ⟨d2, 0, none⟩) bl.length bl.length] 29) := ⟨_, rfl⟩
  have HV : Hid (V = (W.alloc (.cells #[.int .i64 s, .slice (some ⟨b1, 0, none⟩) l.length l.length, .slice (some ⟨d1, 0, none⟩) bl.length bl.length] 29)).alloc (.cells #[.int .i64 s, .slice (some ⟨b2, 0, none⟩) l.length l.length, .slice (some ⟨d2, 0, none⟩) bl.length bl.length] 29)) := hV
  have bW : Below W.heap.size W V := by rw [hV]; exact ((Below.refl _ _).alloc (Nat.le_refl _) _).alloc (by simp) _
  have t2 : Three V (W.heap.size + 1) (.int .i64 s) (.slice (some ⟨b2, 0, none⟩) l.length l.length) (.slice (some ⟨d2, 0, none⟩) bl.length bl.length) := by
    rw [hV]
    have := Three.new (W.alloc (.cells #[.int .i64 s, .slice (some ⟨b1, 0, none⟩) l.length l.length, .slice (some ⟨d1, 0, none⟩) bl.length bl.length] 29)) (.int .i64 s) (.slice (some ⟨b2, 0, none⟩) l.length l.length) (.slice (some ⟨d2, 0, none⟩) bl.length bl.length) 29
    simpa using this
  have t1 : Three V W.heap.size (.int .i64 s) (.slice (some ⟨b1, 0, none⟩) l.length l.length) (.slice (some ⟨d1, 0, none⟩) bl.length bl.length) := by
    rw [hV]
    exact (Three.new W (.int .i64 s) (.slice (some ⟨b1, 0, none⟩) l.length l.length) (.slice (some ⟨d1, 0, none⟩) bl.length bl.length) 29).keep ((Below.refl _ _).alloc (Nat.le_refl _) _)
  have C := eqHeaderS_same V b1 0 b2 0 l.length l.length l hl (h1.keep bW) (h2.keep bW)
  have K : Hid (Below W.heap.size W V ∧ Three V W.heap.size (.int .i64 s) (.slice (some ⟨b1, 0, none⟩) l.length l.length) (.slice (some ⟨d1, 0, none⟩) bl.length bl.length) ∧ Three V (W.heap.size + 1) (.int .i64 s) (.slice (some ⟨b2, 0, none⟩) l.length l.length) (.slice (some ⟨d2, 0, none⟩) bl.length bl.length)) := ⟨bW, t1, t2⟩
  have HC : Hid (∀ X, Below W.heap.size W X → Calls Tryz.prog 51 #[.slice (some ⟨d1, 0, none⟩) bl.length bl.length, .slice (some ⟨d2, 0, none⟩) bl.length bl.length] X fun e w' => e = .returned (.bool true) ∧ Below X.heap.size X w') := fun X hb => eqByteS_same X _ _ _ _ bl hbl (k1.keep hb).in (k2.keep hb).in
  clear hV bW h1 h2 k1 k2 t1 t2
  generalize l.length = n at *
  generalize bl.length = bn at *
  go_enter Tryz.func12, Tryz.ntmps12
  go_wp2_with fail
  rw [← HV.out]
  refine C.mono ?_
  rintro e w1 ⟨rfl, hb1⟩
  have HB1 : Hid (Below W.heap.size W w1) := K.out.1.trans (hb1.mono K.out.1.size)
  have p2 := (K.out.2.1.keep hb1).c2
  have q2 := (K.out.2.2.keep hb1).c2
  have C2 := HC.out w1 HB1.out
  clear hb1 C K HV HC
  go_wp2_with fail
  refine C2.mono ?_
  rintro e w2 ⟨rfl, hb2⟩
  have HB2 : Hid (Below W.heap.size W w2) := HB1.out.trans (hb2.mono HB1.out.size)
  clear hb2 C2 HB1 p2 q2
  go_wp2_with fail
  go_ret
  exact ⟨rfl, HB2.out⟩
end Go.Proofs.YtopkidfbkhjaeaaGreatDoor
